import Derived.Test.YtigfgloenjoeoaaGreatDoorLcBQ
import Derived.Test.YtigfgloenjoeoaaGreatDoorLcBL
import Derived.Carry
import Derived.Deep.DeepCutAuto
import Derived.Deep.RegionHeld3
import Derived.Deep.DrawnRows
set_option linter.unusedVariables false
set_option linter.unusedSimpArgs false
set_option maxRecDepth 20000
set_option maxHeartbeats 16000000
namespace Go.Proofs.YtigfgloenjoeoaaGreatDoor
open Go.RowKit
attribute [local go_sem ↓] Go.wp_at_zero Go.wp_at_succ
theorem print4_short {n:Nat} (h:n < 4294967296):(print4R n).length≤100000:=by have:=print4_len h;omega
theorem print_short {k:Int} {s:ByteArray} {n p0 p1 p2 p3 p4 p5 p6 p7:Nat} (hn:n < 4294967296) (hx:∀x∈[p0,p1,p2,p3,p4,p5,p6,p7],x < 65536) (hs:s.size≤100000):(strOf (printR (k,s.data.toList,n,[p0,p1,p2,p3,p4,p5,p6,p7]))).size≤100000:=by
 show (printR _).length≤100000
 unfold printR
 split
 ·simp only;rw [bytes_num];exact hs
 ·split
  ·exact print4_short hn
  ·split
   ·have:=print6_len (p:=[p0,p1,p2,p3,p4,p5,p6,p7]) rfl hx
    simp only [List.length_cons,List.length_append,List.length_nil]
    omega
   ·simp
theorem may_end {w w2:World} {G X:Nat} {ps:List Value} (hz:BkH w2 X zeroH) (hg:BkH w2 G ps) (hlt:G < X) (hb:Below G w w2) (x0 x1 x2 x3 x4 x5 x6 x7 x8 x9 x10:Value) :
 Below G w (((((((((((w2.setCell ⟨X,0,none⟩ x0).setCell ⟨X,1,none⟩ x1).setCell ⟨X,2,none⟩ x2).setCell ⟨X,3,none⟩ x3).setCell ⟨X,4,none⟩ x4).setCell ⟨X,5,none⟩ x5).setCell ⟨X,6,none⟩ x6).setCell ⟨X,7,none⟩ x7).setCell ⟨X,8,none⟩ x8).setCell ⟨X,9,none⟩ x9).setCell ⟨X,10,none⟩ x10)∧BkH (((((((((((w2.setCell ⟨X,0,none⟩ x0).setCell ⟨X,1,none⟩ x1).setCell ⟨X,2,none⟩ x2).setCell ⟨X,3,none⟩ x3).setCell ⟨X,4,none⟩ x4).setCell ⟨X,5,none⟩ x5).setCell ⟨X,6,none⟩ x6).setCell ⟨X,7,none⟩ x7).setCell ⟨X,8,none⟩ x8).setCell ⟨X,9,none⟩ x9).setCell ⟨X,10,none⟩ x10) G ps∧BkH (((((((((((w2.setCell ⟨X,0,none⟩ x0).setCell ⟨X,1,none⟩ x1).setCell ⟨X,2,none⟩ x2).setCell ⟨X,3,none⟩ x3).setCell ⟨X,4,none⟩ x4).setCell ⟨X,5,none⟩ x5).setCell ⟨X,6,none⟩ x6).setCell ⟨X,7,none⟩ x7).setCell ⟨X,8,none⟩ x8).setCell ⟨X,9,none⟩ x9).setCell ⟨X,10,none⟩ x10) X [x0,x1,x2,x3,x4,x5,x6,x7,x8,x9,x10]:=by
 have hX:=hz.lt
 obtain ⟨h1,h2⟩:=fillZ hz (Below.refl X w2) (Nat.le_refl _) (Nat.le_of_lt hX) x0 x1 x2 x3 x4 x5 x6 x7 x8 x9 x10
 exact ⟨hb.trans (h2.mono (Nat.le_of_lt hlt)),(h2.block G hlt).trans hg,h1⟩
theorem may_new {w w2:World} {G:Nat} {ps:List Value} (hg:BkH w2 G ps) (hb:Below G w w2) (x0 x1 x2 x3 x4 x5 x6 x7 x8 x9 x10:Value) :
 Below G w (w2.alloc (.cells #[x0,x1,x2,x3,x4,x5,x6,x7,x8,x9,x10] 26))∧BkH (w2.alloc (.cells #[x0,x1,x2,x3,x4,x5,x6,x7,x8,x9,x10] 26)) G ps∧BkH (w2.alloc (.cells #[x0,x1,x2,x3,x4,x5,x6,x7,x8,x9,x10] 26)) w2.heap.size [x0,x1,x2,x3,x4,x5,x6,x7,x8,x9,x10] :=
 ⟨hb.alloc (Nat.le_of_lt hg.lt) _,Bk.below hg (ballH _ _),heap_alloc_new w2 _⟩
theorem pair_eq {z:HostN×Nat} {l:List Nat} (h:z.1.2.2.2=l):z=((z.1.1,z.1.2.1,z.1.2.2.1,l),z.2):=by subst h;rfl
theorem may_flag {h:HostN} {M fl:Bool} (hf:(h.1==1||h.1==2)=fl) (hM:mayR h=M):((hostR (printR h) fl).2==0&&(hostR (printR h) fl).1==h)=M:=by
 unfold mayR at hM
 rw [hf] at hM
 exact hM
end Go.Proofs.YtigfgloenjoeoaaGreatDoor
namespace Go.Proofs.YtigfgloenjoeoaaGreatDoor
open Go.RowKit
attribute [local go_sem ↓] Go.wp_at_zero Go.wp_at_succ
theorem hmay_one (s:ByteArray) (n p0 p1 p2 p3 p4 p5 p6 p7:Nat) (w:World) (hn:n < 4294967296) (hx:∀x∈[p0,p1,p2,p3,p4,p5,p6,p7],x < 65536) (hs:s.size≤100000) (T0:TabH w) :
 Calls Tryz.prog 24 #[hostV 1 s n p0 p1 p2 p3 p4 p5 p6 p7] w fun e w'=>e=.returned (.bool (mayR (1,s.data.toList,n,[p0,p1,p2,p3,p4,p5,p6,p7])))∧Below w.heap.size w w':=by
 have HTab:=hid (fun W (h:Below w.heap.size w W)=>T0.below h)
 clear T0
 have HPr:=hid (fun w (t:TabH w)=>hprint_calls 1 s n p0 p1 p2 p3 p4 p5 p6 p7 w hn hx hs t)
 have HSz:=print_short (k:=1) (s:=s) hn hx hs
 have HPa:=hid (fun w (t:TabH w)=>hparse_calls (strOf (printR (1,s.data.toList,n,[p0,p1,p2,p3,p4,p5,p6,p7]))) true w HSz t.r)
 rw [str_data] at HPa
 obtain ⟨M,hM⟩:∃M,mayR (1,s.data.toList,n,[p0,p1,p2,p3,p4,p5,p6,p7])=M:=⟨_,rfl⟩
 rw [hM]
 have HM:Hid (((hostR (printR (1,s.data.toList,n,[p0,p1,p2,p3,p4,p5,p6,p7])) true).2==0&&(hostR (printR (1,s.data.toList,n,[p0,p1,p2,p3,p4,p5,p6,p7])) true).1==((1,s.data.toList,n,[p0,p1,p2,p3,p4,p5,p6,p7]):HostN))=M):=hM
 have HG0:Hid (BkH (w.alloc (.cells #[.int .i64 1,.string s,.int .u32 (n:Int),.int .u16 (p0:Int),.int .u16 (p1:Int),.int .u16 (p2:Int),.int .u16 (p3:Int),.int .u16 (p4:Int),.int .u16 (p5:Int),.int .u16 (p6:Int),.int .u16 (p7:Int)] 26)) w.heap.size [.int .i64 1,.string s,.int .u32 (n:Int),.int .u16 (p0:Int),.int .u16 (p1:Int),.int .u16 (p2:Int),.int .u16 (p3:Int),.int .u16 (p4:Int),.int .u16 (p5:Int),.int .u16 (p6:Int),.int .u16 (p7:Int)]):=heap_alloc_new w _
 have HB0:=hid (ballH w (.cells #[.int .i64 1,.string s,.int .u32 (n:Int),.int .u16 (p0:Int),.int .u16 (p1:Int),.int .u16 (p2:Int),.int .u16 (p3:Int),.int .u16 (p4:Int),.int .u16 (p5:Int),.int .u16 (p6:Int),.int .u16 (p7:Int)] 26))
 generalize hostR (printR (1,s.data.toList,n,[p0,p1,p2,p3,p4,p5,p6,p7]))=HR at *
 generalize strOf (printR (1,s.data.toList,n,[p0,p1,p2,p3,p4,p5,p6,p7]))=PS at *
 clear hM HSz hs hn hx
 unfold hostV at HPr ⊢
 go_enter Tryz.func24,Tryz.ntmps24
 go_wp2_with fail
 generalize w.alloc (.cells #[.int .i64 1,.string s,.int .u32 (n:Int),.int .u16 (p0:Int),.int .u16 (p1:Int),.int .u16 (p2:Int),.int .u16 (p3:Int),.int .u16 (p4:Int),.int .u16 (p5:Int),.int .u16 (p6:Int),.int .u16 (p7:Int)] 26)=w0 at *
 generalize hGG:w.heap.size=G at *
 have HGG:=hid hGG
 clear hGG
 go_cut [3,4] (fun vx ve wx=>∃X,vx=.pointer (some ⟨X,0,none⟩)∧G < X∧Below G w wx∧BkH wx G [.int .i64 1,.string s,.int .u32 (n:Int),.int .u16 (p0:Int),.int .u16 (p1:Int),.int .u16 (p2:Int),.int .u16 (p3:Int),.int .u16 (p4:Int),.int .u16 (p5:Int),.int .u16 (p6:Int),.int .u16 (p7:Int)]∧∃(r1:Int) (r2:List UInt8) (r3 a0 a1 a2 a3 a4 a5 a6 a7 m:Nat),HR true=((r1,r2,r3,[a0,a1,a2,a3,a4,a5,a6,a7]),m)∧ve=.int .i64 (m:Int)∧BkH wx X [.int .i64 r1,.string (strOf r2),.int .u32 (r3:Int),.int .u16 (a0:Int),.int .u16 (a1:Int),.int .u16 (a2:Int),.int .u16 (a3:Int),.int .u16 (a4:Int),.int .u16 (a5:Int),.int .u16 (a6:Int),.int .u16 (a7:Int)])
 case first =>
  refine wp_region_held_drew (S:=fun w'=>w'.cell? ⟨G,0,none⟩=some (.int .i64 1)∧w'.cell? ⟨G,1,none⟩=some (.string s)∧w'.cell? ⟨G,2,none⟩=some (.int .u32 (n:Int))∧w'.cell? ⟨G,3,none⟩=some (.int .u16 (p0:Int))∧w'.cell? ⟨G,4,none⟩=some (.int .u16 (p1:Int))∧w'.cell? ⟨G,5,none⟩=some (.int .u16 (p2:Int))∧w'.cell? ⟨G,6,none⟩=some (.int .u16 (p3:Int))∧w'.cell? ⟨G,7,none⟩=some (.int .u16 (p4:Int))∧w'.cell? ⟨G,8,none⟩=some (.int .u16 (p5:Int))∧w'.cell? ⟨G,9,none⟩=some (.int .u16 (p6:Int))∧w'.cell? ⟨G,10,none⟩=some (.int .u16 (p7:Int))) (by kernel_rfl) ?_ (fun hHeld=>?_)
  ·exact (cellsH HG0.out).1
  have HGc:Hid (BkH w0.drew G [.int .i64 1,.string s,.int .u32 (n:Int),.int .u16 (p0:Int),.int .u16 (p1:Int),.int .u16 (p2:Int),.int .u16 (p3:Int),.int .u16 (p4:Int),.int .u16 (p5:Int),.int .u16 (p6:Int),.int .u16 (p7:Int)]):=HG0
  have HBc:=hid (HB0.out.drew)
  refine' wpAnyH_take (i:=0) (v:=?_) rfl (by kernel_rfl) (by kernel_rfl) (by kernel_rfl) (fun _ _ _ h=>h) (Or.inl ⟨by rfl,?hy0x47⟩) hHeld ?rest0x47
  case hy0x47=>(intro w hSw;(try dsimp only at hSw);go_simp;try with_reducible rfl)
  simp only [Act.put,List.setIfInBounds_toArray,List.set_cons_zero,List.set_cons_succ]
  refine' wpAnyH_take (i:=2) (v:=?_) rfl (by kernel_rfl) (by kernel_rfl) (by kernel_rfl) (fun _ _ _ h=>h) (Or.inl ⟨by rfl,?hy2x48⟩) hHeld ?rest2x48
  case hy2x48=>(intro w hSw;(try dsimp only at hSw);go_simp;try with_reducible rfl)
  simp only [Act.put,List.setIfInBounds_toArray,List.set_cons_zero,List.set_cons_succ]
  refine' wpAnyH_take (i:=3) (v:=?_) rfl (by kernel_rfl) (by kernel_rfl) (by kernel_rfl) (fun _ _ _ h=>h) (Or.inl ⟨by rfl,?hy3x49⟩) hHeld ?rest3x49
  case hy3x49=>(intro w hSw;(try dsimp only at hSw);go_simp;try with_reducible rfl)
  simp only [Act.put,List.setIfInBounds_toArray,List.set_cons_zero,List.set_cons_succ]
  refine' wpAnyH_take (i:=4) (v:=?_) rfl (by kernel_rfl) (by kernel_rfl) (by kernel_rfl) (fun _ _ _ h=>h) (Or.inl ⟨by rfl,?hy4x50⟩) hHeld ?rest4x50
  case hy4x50=>(intro w hSw;(try dsimp only at hSw);go_simp;try with_reducible rfl)
  simp only [Act.put,List.setIfInBounds_toArray,List.set_cons_zero,List.set_cons_succ]
  refine wpAnyH_ready (rs:=[1,14]) (by kernel_rfl) (by simp) ?_
  refine' (AllReadyH.cons rfl (fun K hK=>?st27x0) (AllReadyH.cons rfl (fun K hK=>?st27x1) AllReadyH.nil))
  case st27x0 =>
   go_simp
   refine (HPr.out _ (HTab.out _ HBc.out)).mono ?_
   rintro e w1 ⟨rfl,hb1⟩
   have HBc:=hid (HBc.out.trans (hb1.mono (Nat.le_of_lt HGc.out.lt)))
   have HGc:=hid (Bk.below HGc.out hb1)
   go_wp2_with fail
   refine hK.out _ _ ?_ (fun hHeld=>?_)
   ·exact (cellsH HGc.out).1
   clear hK K
   try simp only [Act.put,List.setIfInBounds_toArray,List.set_cons_zero,List.set_cons_succ]
   refine' wpAnyH_take (i:=5) (v:=?_) rfl (by kernel_rfl) (by kernel_rfl) (by kernel_rfl) (fun _ _ _ h=>h) (Or.inl ⟨by rfl,?hy5x51⟩) hHeld ?rest5x51
   case hy5x51=>(intro w hSw;(try dsimp only at hSw);go_simp;try with_reducible rfl)
   simp only [Act.put,List.setIfInBounds_toArray,List.set_cons_zero,List.set_cons_succ]
   refine' wpAnyH_take (i:=6) (v:=undef) rfl (by kernel_rfl) (by kernel_rfl) (by kernel_rfl) (fun _ _ _ h=>h) (Or.inr ⟨by rfl,rfl⟩) hHeld ?_
   simp only [Act.put,List.setIfInBounds_toArray,List.set_cons_zero,List.set_cons_succ]
   refine' wpAnyH_take (i:=7) (v:=undef) rfl (by kernel_rfl) (by kernel_rfl) (by kernel_rfl) (fun _ _ _ h=>h) (Or.inr ⟨by rfl,rfl⟩) hHeld ?_
   simp only [Act.put,List.setIfInBounds_toArray,List.set_cons_zero,List.set_cons_succ]
   refine' wpAnyH_take (i:=8) (v:=undef) rfl (by kernel_rfl) (by kernel_rfl) (by kernel_rfl) (fun _ _ _ h=>h) (Or.inr ⟨by rfl,rfl⟩) hHeld ?_
   simp only [Act.put,List.setIfInBounds_toArray,List.set_cons_zero,List.set_cons_succ]
   refine' wpAnyH_take (i:=9) (v:=?_) rfl (by kernel_rfl) (by kernel_rfl) (by kernel_rfl) (fun _ _ _ h=>h) (Or.inl ⟨by rfl,?hy9x52⟩) hHeld ?rest9x52
   case hy9x52=>(intro w hSw;(try dsimp only at hSw);go_simp;try with_reducible rfl)
   simp only [Act.put,List.setIfInBounds_toArray,List.set_cons_zero,List.set_cons_succ]
   refine wpAnyH_ready (rs:=[10,14]) (by kernel_rfl) (by simp) ?_
   refine' (AllReadyH.cons rfl (fun K hK=>?st23x0) (AllReadyH.cons rfl (fun K hK=>?st23x1) AllReadyH.nil))
   case st23x0 =>
    go_simp
    refine (HPa.out _ (HTab.out _ HBc.out)).mono ?_
    rintro e w2 ⟨a0,a1,a2,a3,a4,a5,a6,a7,hp,rfl,hb2⟩
    unfold hostV
    have HBc:=hid (HBc.out.trans (hb2.mono (Nat.le_of_lt HGc.out.lt)))
    have HGc:=hid (Bk.below HGc.out hb2)
    go_wp2_with fail
    refine hK.out _ _ ?_ (fun hHeld=>?_)
    ·exact (cellsH HGc.out).1
    clear hK K
    try simp only [Act.put,List.setIfInBounds_toArray,List.set_cons_zero,List.set_cons_succ]
    refine' wpAnyH_take (i:=11) (v:=?_) rfl (by kernel_rfl) (by kernel_rfl) (by kernel_rfl) (fun _ _ _ h=>h) (Or.inl ⟨by rfl,?hy11x53⟩) hHeld ?rest11x53
    case hy11x53=>(intro w hSw;(try dsimp only at hSw);go_simp;try with_reducible rfl)
    simp only [Act.put,List.setIfInBounds_toArray,List.set_cons_zero,List.set_cons_succ]
    refine' wpAnyH_take (i:=12) (v:=?_) rfl (by kernel_rfl) (by kernel_rfl) (by kernel_rfl) (fun _ _ _ h=>h) (Or.inl ⟨by rfl,?hy12x54⟩) hHeld ?rest12x54
    case hy12x54=>(intro w hSw;(try dsimp only at hSw);go_simp;try with_reducible rfl)
    simp only [Act.put,List.setIfInBounds_toArray,List.set_cons_zero,List.set_cons_succ]
    refine' wpAnyH_take (i:=13) (v:=?_) rfl (by kernel_rfl) (by kernel_rfl) (by kernel_rfl) (fun _ _ _ h=>h) (Or.inl ⟨by rfl,?hy13x55⟩) hHeld ?rest13x55
    case hy13x55=>(intro w hSw;(try dsimp only at hSw);go_simp;try with_reducible rfl)
    simp only [Act.put,List.setIfInBounds_toArray,List.set_cons_zero,List.set_cons_succ]
    refine wpAnyH_ready (rs:=[14]) (by kernel_rfl) (by simp) ?_
    refine' AllReadyH.cons rfl (fun K hK=>?_) AllReadyH.nil
    have HGp:=hid HGc.out
    have HBp:=hid HBc.out
    go_simp
    have hlt:=hid HGc.out.lt
    have HBc:=hid (HBc.out.alloc (Nat.le_of_lt HGc.out.lt) (.cells #[.int .i64 0,.string ⟨#[]⟩,.int .u32 0,.int .u16 0,.int .u16 0,.int .u16 0,.int .u16 0,.int .u16 0,.int .u16 0,.int .u16 0,.int .u16 0] 26))
    have HZc:=hid (zeroH_world (w2))
    have HGc:=hid (Bk.below HGc.out (ballH (w2) (.cells #[.int .i64 0,.string ⟨#[]⟩,.int .u32 0,.int .u16 0,.int .u16 0,.int .u16 0,.int .u16 0,.int .u16 0,.int .u16 0,.int .u16 0,.int .u16 0] 26)))
    refine hK.out _ _ ?_ (fun hHeld=>?_)
    ·exact (cellsH HGc.out).1
    clear hK K
    try simp only [Act.put,List.setIfInBounds_toArray,List.set_cons_zero,List.set_cons_succ]
    refine wpAnyH_ready (rs:=[15]) (by kernel_rfl) (by simp) ?_
    refine' AllReadyH.cons rfl (fun K hK=>?_) AllReadyH.nil
    have HE:=hid (may_new HGp.out HBp.out (.int .i64 (HR true).1.1) (.string (strOf (HR true).1.2.1)) (.int .u32 (((HR true).1.2.2.1:Nat):Int)) (.int .u16 (a0:Int)) (.int .u16 (a1:Int)) (.int .u16 (a2:Int)) (.int .u16 (a3:Int)) (.int .u16 (a4:Int)) (.int .u16 (a5:Int)) (.int .u16 (a6:Int)) (.int .u16 (a7:Int)))
    go_simp
    refine hK.out _ _ ?_ (fun hHeld=>?_)
    ·exact (cellsH HE.out.2.1).1
    clear hK K
    try simp only [Act.put,List.setIfInBounds_toArray,List.set_cons_zero,List.set_cons_succ]
    refine' wpAnyH_take (i:=16) (v:=?_) (by simp only [List.getElem?_toArray,List.getElem?_cons_succ,List.getElem?_cons_zero];rfl) (by kernel_rfl) (by kernel_rfl) (by kernel_rfl) (by intro _ _ _ h;exact h) (Or.inl ⟨by rfl,?hy16x56⟩) hHeld ?rest16x56
    case hy16x56=>(intro w hSw;(try dsimp only at hSw);go_simp;try with_reducible rfl)
    simp only [Act.put,List.setIfInBounds_toArray,List.set_cons_zero,List.set_cons_succ]
    refine wpAnyH_done (by kernel_rfl) ?_ _
    go_wp2_with fail
    go_meet
    case rel=>exact ⟨_,rfl,hlt.out,HE.out.1,HE.out.2.1,_,_,_,_,_,_,_,_,_,_,_,_,(pair_eq hp),rfl,HE.out.2.2⟩
   case st23x1 =>
    go_simp
    have hlt:=hid HGc.out.lt
    have HBc:=hid (HBc.out.alloc (Nat.le_of_lt HGc.out.lt) (.cells #[.int .i64 0,.string ⟨#[]⟩,.int .u32 0,.int .u16 0,.int .u16 0,.int .u16 0,.int .u16 0,.int .u16 0,.int .u16 0,.int .u16 0,.int .u16 0] 26))
    have HZc:=hid (zeroH_world (w1))
    have HGc:=hid (Bk.below HGc.out (ballH (w1) (.cells #[.int .i64 0,.string ⟨#[]⟩,.int .u32 0,.int .u16 0,.int .u16 0,.int .u16 0,.int .u16 0,.int .u16 0,.int .u16 0,.int .u16 0,.int .u16 0] 26)))
    refine hK.out _ _ ?_ (fun hHeld=>?_)
    ·exact (cellsH HGc.out).1
    clear hK K
    try simp only [Act.put,List.setIfInBounds_toArray,List.set_cons_zero,List.set_cons_succ]
    refine wpAnyH_ready (rs:=[10]) (by kernel_rfl) (by simp) ?_
    refine' AllReadyH.cons rfl (fun K hK=>?_) AllReadyH.nil
    go_simp
    refine (HPa.out _ (HTab.out _ HBc.out)).mono ?_
    rintro e w2 ⟨a0,a1,a2,a3,a4,a5,a6,a7,hp,rfl,hb2⟩
    unfold hostV
    have HBc:=hid (HBc.out.trans (hb2.mono (Nat.le_of_lt HGc.out.lt)))
    have HGc:=hid (Bk.below HGc.out hb2)
    have HZc:=hid (Bk.below HZc.out hb2)
    go_wp2_with fail
    refine hK.out _ _ ?_ (fun hHeld=>?_)
    ·exact (cellsH HGc.out).1
    clear hK K
    try simp only [Act.put,List.setIfInBounds_toArray,List.set_cons_zero,List.set_cons_succ]
    refine' wpAnyH_take (i:=11) (v:=?_) rfl (by kernel_rfl) (by kernel_rfl) (by kernel_rfl) (fun _ _ _ h=>h) (Or.inl ⟨by rfl,?hy11x57⟩) hHeld ?rest11x57
    case hy11x57=>(intro w hSw;(try dsimp only at hSw);go_simp;try with_reducible rfl)
    simp only [Act.put,List.setIfInBounds_toArray,List.set_cons_zero,List.set_cons_succ]
    refine' wpAnyH_take (i:=12) (v:=?_) rfl (by kernel_rfl) (by kernel_rfl) (by kernel_rfl) (fun _ _ _ h=>h) (Or.inl ⟨by rfl,?hy12x58⟩) hHeld ?rest12x58
    case hy12x58=>(intro w hSw;(try dsimp only at hSw);go_simp;try with_reducible rfl)
    simp only [Act.put,List.setIfInBounds_toArray,List.set_cons_zero,List.set_cons_succ]
    refine' wpAnyH_take (i:=13) (v:=?_) rfl (by kernel_rfl) (by kernel_rfl) (by kernel_rfl) (fun _ _ _ h=>h) (Or.inl ⟨by rfl,?hy13x59⟩) hHeld ?rest13x59
    case hy13x59=>(intro w hSw;(try dsimp only at hSw);go_simp;try with_reducible rfl)
    simp only [Act.put,List.setIfInBounds_toArray,List.set_cons_zero,List.set_cons_succ]
    refine wpAnyH_ready (rs:=[15]) (by kernel_rfl) (by simp) ?_
    refine' AllReadyH.cons rfl (fun K hK=>?_) AllReadyH.nil
    obtain ⟨⟨c0,c1,c2,c3,c4,c5,c6,c7,c8,c9,c10⟩,⟨f0,f1,f2,f3,f4,f5,f6,f7,f8,f9,f10⟩⟩:=cellsZ HZc.out
    have HE:=hid (may_end HZc.out HGc.out hlt.out HBc.out (.int .i64 (HR true).1.1) (.string (strOf (HR true).1.2.1)) (.int .u32 (((HR true).1.2.2.1:Nat):Int)) (.int .u16 (a0:Int)) (.int .u16 (a1:Int)) (.int .u16 (a2:Int)) (.int .u16 (a3:Int)) (.int .u16 (a4:Int)) (.int .u16 (a5:Int)) (.int .u16 (a6:Int)) (.int .u16 (a7:Int)))
    go_simp
    refine hK.out _ _ ?_ (fun hHeld=>?_)
    ·exact (cellsH HE.out.2.1).1
    clear hK K
    try simp only [Act.put,List.setIfInBounds_toArray,List.set_cons_zero,List.set_cons_succ]
    refine' wpAnyH_take (i:=16) (v:=?_) (by simp only [List.getElem?_toArray,List.getElem?_cons_succ,List.getElem?_cons_zero];rfl) (by kernel_rfl) (by kernel_rfl) (by kernel_rfl) (by intro _ _ _ h;exact h) (Or.inl ⟨by rfl,?hy16x60⟩) hHeld ?rest16x60
    case hy16x60=>(intro w hSw;(try dsimp only at hSw);go_simp;try with_reducible rfl)
    simp only [Act.put,List.setIfInBounds_toArray,List.set_cons_zero,List.set_cons_succ]
    refine wpAnyH_done (by kernel_rfl) ?_ _
    go_wp2_with fail
    go_meet
    case rel=>exact ⟨_,rfl,hlt.out,HE.out.1,HE.out.2.1,_,_,_,_,_,_,_,_,_,_,_,_,(pair_eq hp),rfl,HE.out.2.2⟩
  case st27x1 =>
   go_simp
   have hlt:Hid (G < w0.heap.size):=hid HGc.out.lt
   have HBc:=hid (HBc.out.alloc (Nat.le_of_lt HGc.out.lt) (.cells #[.int .i64 0,.string ⟨#[]⟩,.int .u32 0,.int .u16 0,.int .u16 0,.int .u16 0,.int .u16 0,.int .u16 0,.int .u16 0,.int .u16 0,.int .u16 0] 26))
   have HZc:Hid (BkH (w0.drew.alloc (.cells #[.int .i64 0,.string ⟨#[]⟩,.int .u32 0,.int .u16 0,.int .u16 0,.int .u16 0,.int .u16 0,.int .u16 0,.int .u16 0,.int .u16 0,.int .u16 0] 26)) w0.heap.size zeroH):=hid (zeroH_world w0.drew)
   have HGc:=hid (Bk.below HGc.out (ballH (w0.drew) (.cells #[.int .i64 0,.string ⟨#[]⟩,.int .u32 0,.int .u16 0,.int .u16 0,.int .u16 0,.int .u16 0,.int .u16 0,.int .u16 0,.int .u16 0,.int .u16 0] 26)))
   refine hK.out _ _ ?_ (fun hHeld=>?_)
   ·exact (cellsH HGc.out).1
   clear hK K
   try simp only [Act.put,List.setIfInBounds_toArray,List.set_cons_zero,List.set_cons_succ]
   refine wpAnyH_ready (rs:=[1]) (by kernel_rfl) (by simp) ?_
   refine' AllReadyH.cons rfl (fun K hK=>?_) AllReadyH.nil
   go_simp
   refine (HPr.out _ (HTab.out _ HBc.out)).mono ?_
   rintro e w1 ⟨rfl,hb1⟩
   have HBc:=hid (HBc.out.trans (hb1.mono (Nat.le_of_lt HGc.out.lt)))
   have HGc:=hid (Bk.below HGc.out hb1)
   have HZc:=hid (Bk.below HZc.out hb1)
   go_wp2_with fail
   refine hK.out _ _ ?_ (fun hHeld=>?_)
   ·exact (cellsH HGc.out).1
   clear hK K
   try simp only [Act.put,List.setIfInBounds_toArray,List.set_cons_zero,List.set_cons_succ]
   refine' wpAnyH_take (i:=5) (v:=?_) rfl (by kernel_rfl) (by kernel_rfl) (by kernel_rfl) (fun _ _ _ h=>h) (Or.inl ⟨by rfl,?hy5x61⟩) hHeld ?rest5x61
   case hy5x61=>(intro w hSw;(try dsimp only at hSw);go_simp;try with_reducible rfl)
   simp only [Act.put,List.setIfInBounds_toArray,List.set_cons_zero,List.set_cons_succ]
   refine' wpAnyH_take (i:=6) (v:=undef) rfl (by kernel_rfl) (by kernel_rfl) (by kernel_rfl) (fun _ _ _ h=>h) (Or.inr ⟨by rfl,rfl⟩) hHeld ?_
   simp only [Act.put,List.setIfInBounds_toArray,List.set_cons_zero,List.set_cons_succ]
   refine' wpAnyH_take (i:=7) (v:=undef) rfl (by kernel_rfl) (by kernel_rfl) (by kernel_rfl) (fun _ _ _ h=>h) (Or.inr ⟨by rfl,rfl⟩) hHeld ?_
   simp only [Act.put,List.setIfInBounds_toArray,List.set_cons_zero,List.set_cons_succ]
   refine' wpAnyH_take (i:=8) (v:=undef) rfl (by kernel_rfl) (by kernel_rfl) (by kernel_rfl) (fun _ _ _ h=>h) (Or.inr ⟨by rfl,rfl⟩) hHeld ?_
   simp only [Act.put,List.setIfInBounds_toArray,List.set_cons_zero,List.set_cons_succ]
   refine' wpAnyH_take (i:=9) (v:=?_) rfl (by kernel_rfl) (by kernel_rfl) (by kernel_rfl) (fun _ _ _ h=>h) (Or.inl ⟨by rfl,?hy9x62⟩) hHeld ?rest9x62
   case hy9x62=>(intro w hSw;(try dsimp only at hSw);go_simp;try with_reducible rfl)
   simp only [Act.put,List.setIfInBounds_toArray,List.set_cons_zero,List.set_cons_succ]
   refine wpAnyH_ready (rs:=[10]) (by kernel_rfl) (by simp) ?_
   refine' AllReadyH.cons rfl (fun K hK=>?_) AllReadyH.nil
   go_simp
   refine (HPa.out _ (HTab.out _ HBc.out)).mono ?_
   rintro e w2 ⟨a0,a1,a2,a3,a4,a5,a6,a7,hp,rfl,hb2⟩
   unfold hostV
   have HBc:=hid (HBc.out.trans (hb2.mono (Nat.le_of_lt HGc.out.lt)))
   have HGc:=hid (Bk.below HGc.out hb2)
   have HZc:=hid (Bk.below HZc.out hb2)
   go_wp2_with fail
   refine hK.out _ _ ?_ (fun hHeld=>?_)
   ·exact (cellsH HGc.out).1
   clear hK K
   try simp only [Act.put,List.setIfInBounds_toArray,List.set_cons_zero,List.set_cons_succ]
   refine' wpAnyH_take (i:=11) (v:=?_) rfl (by kernel_rfl) (by kernel_rfl) (by kernel_rfl) (fun _ _ _ h=>h) (Or.inl ⟨by rfl,?hy11x63⟩) hHeld ?rest11x63
   case hy11x63=>(intro w hSw;(try dsimp only at hSw);go_simp;try with_reducible rfl)
   simp only [Act.put,List.setIfInBounds_toArray,List.set_cons_zero,List.set_cons_succ]
   refine' wpAnyH_take (i:=12) (v:=?_) rfl (by kernel_rfl) (by kernel_rfl) (by kernel_rfl) (fun _ _ _ h=>h) (Or.inl ⟨by rfl,?hy12x64⟩) hHeld ?rest12x64
   case hy12x64=>(intro w hSw;(try dsimp only at hSw);go_simp;try with_reducible rfl)
   simp only [Act.put,List.setIfInBounds_toArray,List.set_cons_zero,List.set_cons_succ]
   refine' wpAnyH_take (i:=13) (v:=?_) rfl (by kernel_rfl) (by kernel_rfl) (by kernel_rfl) (fun _ _ _ h=>h) (Or.inl ⟨by rfl,?hy13x65⟩) hHeld ?rest13x65
   case hy13x65=>(intro w hSw;(try dsimp only at hSw);go_simp;try with_reducible rfl)
   simp only [Act.put,List.setIfInBounds_toArray,List.set_cons_zero,List.set_cons_succ]
   refine wpAnyH_ready (rs:=[15]) (by kernel_rfl) (by simp) ?_
   refine' AllReadyH.cons rfl (fun K hK=>?_) AllReadyH.nil
   obtain ⟨⟨c0,c1,c2,c3,c4,c5,c6,c7,c8,c9,c10⟩,⟨f0,f1,f2,f3,f4,f5,f6,f7,f8,f9,f10⟩⟩:=cellsZ HZc.out
   have HE:=hid (may_end HZc.out HGc.out hlt.out HBc.out (.int .i64 (HR true).1.1) (.string (strOf (HR true).1.2.1)) (.int .u32 (((HR true).1.2.2.1:Nat):Int)) (.int .u16 (a0:Int)) (.int .u16 (a1:Int)) (.int .u16 (a2:Int)) (.int .u16 (a3:Int)) (.int .u16 (a4:Int)) (.int .u16 (a5:Int)) (.int .u16 (a6:Int)) (.int .u16 (a7:Int)))
   go_simp
   refine hK.out _ _ ?_ (fun hHeld=>?_)
   ·exact (cellsH HE.out.2.1).1
   clear hK K
   try simp only [Act.put,List.setIfInBounds_toArray,List.set_cons_zero,List.set_cons_succ]
   refine' wpAnyH_take (i:=16) (v:=?_) (by simp only [List.getElem?_toArray,List.getElem?_cons_succ,List.getElem?_cons_zero];rfl) (by kernel_rfl) (by kernel_rfl) (by kernel_rfl) (by intro _ _ _ h;exact h) (Or.inl ⟨by rfl,?hy16x66⟩) hHeld ?rest16x66
   case hy16x66=>(intro w hSw;(try dsimp only at hSw);go_simp;try with_reducible rfl)
   simp only [Act.put,List.setIfInBounds_toArray,List.set_cons_zero,List.set_cons_succ]
   refine wpAnyH_done (by kernel_rfl) ?_ _
   go_wp2_with fail
   go_meet
   case rel=>exact ⟨_,rfl,hlt.out,HE.out.1,HE.out.2.1,_,_,_,_,_,_,_,_,_,_,_,_,(pair_eq hp),rfl,HE.out.2.2⟩
 case rest =>
  obtain ⟨X,rfl,hlt,hbw,hg,r1,r2,r3,a0,a1,a2,a3,a4,a5,a6,a7,m,hr,rfl,hz⟩:=hcut
  rw [hr] at HM
  have HBw:=hid hbw
  have hlg:=hid hg.lt
  obtain ⟨⟨c0,c1,c2,c3,c4,c5,c6,c7,c8,c9,c10⟩,-⟩:=cellsH hg
  obtain ⟨⟨d0,d1,d2,d3,d4,d5,d6,d7,d8,d9,d10⟩,-⟩:=cellsH hz
  clear hlt hbw hg hz hr HPr HPa HG0 HB0
  by_cases hm:m=0
  ·have m1:((m:Int)==0)=true:=by rw [hm];rfl
   have HM2:Hid ((((r1,r2,r3,[a0,a1,a2,a3,a4,a5,a6,a7]):HostN)==(1,s.data.toList,n,[p0,p1,p2,p3,p4,p5,p6,p7]))=M):=by
    show _=_
    have h:=HM.out
    simp only [hm,beq_self_eq_true,Bool.true_and] at h
    exact h
   clear hm HM
   have heq:=eq_host r1 (strOf r2) r3 a0 a1 a2 a3 a4 a5 a6 a7 1 s n p0 p1 p2 p3 p4 p5 p6 p7
   simp only [sameV_iff,str_data,HM2.out] at heq
   have hgd:Tryz.prog.eqGuardType Tryz.prog.depth 26=false:=by kernel_rfl
   cases M
   ·go_wp2_with fail
    go_ret
    exact ⟨rfl,by rw [HGG.out];exact HBw.out⟩
   ·go_wp2_with fail
    go_ret
    exact ⟨rfl,by rw [HGG.out];exact HBw.out⟩
  ·have m1:((m:Int)==0)=false:=by rw [beq_eq_false_iff_ne];omega
   have HM2:Hid (M=false):=by
    show _=_
    have h:=HM.out
    have e:(m==0)=false:=beq_eq_false_iff_ne.2 hm
    simp only [e,Bool.false_and] at h
    exact h.symm
   clear hm HM
   go_wp2_with fail
   go_ret
   exact ⟨by rw [HM2.out];rfl,by rw [HGG.out];exact HBw.out⟩
theorem hmay_any (k:Int) (h1:k≠1) (s:ByteArray) (n p0 p1 p2 p3 p4 p5 p6 p7:Nat) (w:World) (hn:n < 4294967296) (hx:∀x∈[p0,p1,p2,p3,p4,p5,p6,p7],x < 65536) (hs:s.size≤100000) (T0:TabH w) :
 Calls Tryz.prog 24 #[hostV k s n p0 p1 p2 p3 p4 p5 p6 p7] w fun e w'=>e=.returned (.bool (mayR (k,s.data.toList,n,[p0,p1,p2,p3,p4,p5,p6,p7])))∧Below w.heap.size w w':=by
 have e1:((k:Int)==1)=false:=beq_eq_false_iff_ne.2 h1
 obtain ⟨fl,e2⟩:∃fl,((k:Int)==2)=fl:=⟨_,rfl⟩
 clear h1
 have HTab:=hid (fun W (h:Below w.heap.size w W)=>T0.below h)
 clear T0
 have HPr:=hid (fun w (t:TabH w)=>hprint_calls k s n p0 p1 p2 p3 p4 p5 p6 p7 w hn hx hs t)
 have HSz:=print_short (k:=k) (s:=s) hn hx hs
 have HPa:=hid (fun w (t:TabH w)=>hparse_calls (strOf (printR (k,s.data.toList,n,[p0,p1,p2,p3,p4,p5,p6,p7]))) fl w HSz t.r)
 rw [str_data] at HPa
 obtain ⟨M,hM⟩:∃M,mayR (k,s.data.toList,n,[p0,p1,p2,p3,p4,p5,p6,p7])=M:=⟨_,rfl⟩
 rw [hM]
 have HM:Hid (((hostR (printR (k,s.data.toList,n,[p0,p1,p2,p3,p4,p5,p6,p7])) fl).2==0&&(hostR (printR (k,s.data.toList,n,[p0,p1,p2,p3,p4,p5,p6,p7])) fl).1==((k,s.data.toList,n,[p0,p1,p2,p3,p4,p5,p6,p7]):HostN))=M):=(may_flag (by rw [e1,e2];rfl) hM)
 have HG0:Hid (BkH (w.alloc (.cells #[.int .i64 k,.string s,.int .u32 (n:Int),.int .u16 (p0:Int),.int .u16 (p1:Int),.int .u16 (p2:Int),.int .u16 (p3:Int),.int .u16 (p4:Int),.int .u16 (p5:Int),.int .u16 (p6:Int),.int .u16 (p7:Int)] 26)) w.heap.size [.int .i64 k,.string s,.int .u32 (n:Int),.int .u16 (p0:Int),.int .u16 (p1:Int),.int .u16 (p2:Int),.int .u16 (p3:Int),.int .u16 (p4:Int),.int .u16 (p5:Int),.int .u16 (p6:Int),.int .u16 (p7:Int)]):=heap_alloc_new w _
 have HB0:=hid (ballH w (.cells #[.int .i64 k,.string s,.int .u32 (n:Int),.int .u16 (p0:Int),.int .u16 (p1:Int),.int .u16 (p2:Int),.int .u16 (p3:Int),.int .u16 (p4:Int),.int .u16 (p5:Int),.int .u16 (p6:Int),.int .u16 (p7:Int)] 26))
 generalize hostR (printR (k,s.data.toList,n,[p0,p1,p2,p3,p4,p5,p6,p7]))=HR at *
 generalize strOf (printR (k,s.data.toList,n,[p0,p1,p2,p3,p4,p5,p6,p7]))=PS at *
 clear hM HSz hs hn hx
 unfold hostV at HPr ⊢
 go_enter Tryz.func24,Tryz.ntmps24
 go_wp2_with fail
 generalize w.alloc (.cells #[.int .i64 k,.string s,.int .u32 (n:Int),.int .u16 (p0:Int),.int .u16 (p1:Int),.int .u16 (p2:Int),.int .u16 (p3:Int),.int .u16 (p4:Int),.int .u16 (p5:Int),.int .u16 (p6:Int),.int .u16 (p7:Int)] 26)=w0 at *
 generalize hGG:w.heap.size=G at *
 have HGG:=hid hGG
 clear hGG
 go_cut [3,4] (fun vx ve wx=>∃X,vx=.pointer (some ⟨X,0,none⟩)∧G < X∧Below G w wx∧BkH wx G [.int .i64 k,.string s,.int .u32 (n:Int),.int .u16 (p0:Int),.int .u16 (p1:Int),.int .u16 (p2:Int),.int .u16 (p3:Int),.int .u16 (p4:Int),.int .u16 (p5:Int),.int .u16 (p6:Int),.int .u16 (p7:Int)]∧∃(r1:Int) (r2:List UInt8) (r3 a0 a1 a2 a3 a4 a5 a6 a7 m:Nat),HR fl=((r1,r2,r3,[a0,a1,a2,a3,a4,a5,a6,a7]),m)∧ve=.int .i64 (m:Int)∧BkH wx X [.int .i64 r1,.string (strOf r2),.int .u32 (r3:Int),.int .u16 (a0:Int),.int .u16 (a1:Int),.int .u16 (a2:Int),.int .u16 (a3:Int),.int .u16 (a4:Int),.int .u16 (a5:Int),.int .u16 (a6:Int),.int .u16 (a7:Int)])
 case first =>
  refine wp_region_held_drew (S:=fun w'=>w'.cell? ⟨G,0,none⟩=some (.int .i64 k)∧w'.cell? ⟨G,1,none⟩=some (.string s)∧w'.cell? ⟨G,2,none⟩=some (.int .u32 (n:Int))∧w'.cell? ⟨G,3,none⟩=some (.int .u16 (p0:Int))∧w'.cell? ⟨G,4,none⟩=some (.int .u16 (p1:Int))∧w'.cell? ⟨G,5,none⟩=some (.int .u16 (p2:Int))∧w'.cell? ⟨G,6,none⟩=some (.int .u16 (p3:Int))∧w'.cell? ⟨G,7,none⟩=some (.int .u16 (p4:Int))∧w'.cell? ⟨G,8,none⟩=some (.int .u16 (p5:Int))∧w'.cell? ⟨G,9,none⟩=some (.int .u16 (p6:Int))∧w'.cell? ⟨G,10,none⟩=some (.int .u16 (p7:Int))) (by kernel_rfl) ?_ (fun hHeld=>?_)
  ·exact (cellsH HG0.out).1
  have HGc:Hid (BkH w0.drew G [.int .i64 k,.string s,.int .u32 (n:Int),.int .u16 (p0:Int),.int .u16 (p1:Int),.int .u16 (p2:Int),.int .u16 (p3:Int),.int .u16 (p4:Int),.int .u16 (p5:Int),.int .u16 (p6:Int),.int .u16 (p7:Int)]):=HG0
  have HBc:=hid (HB0.out.drew)
  refine' wpAnyH_take (i:=0) (v:=?_) rfl (by kernel_rfl) (by kernel_rfl) (by kernel_rfl) (fun _ _ _ h=>h) (Or.inl ⟨by rfl,?hy0x67⟩) hHeld ?rest0x67
  case hy0x67=>(intro w hSw;(try dsimp only at hSw);go_simp;try with_reducible rfl)
  simp only [Act.put,List.setIfInBounds_toArray,List.set_cons_zero,List.set_cons_succ]
  refine' wpAnyH_take (i:=2) (v:=?_) rfl (by kernel_rfl) (by kernel_rfl) (by kernel_rfl) (fun _ _ _ h=>h) (Or.inl ⟨by rfl,?hy2x68⟩) hHeld ?rest2x68
  case hy2x68=>(intro w hSw;(try dsimp only at hSw);go_simp;try with_reducible rfl)
  simp only [Act.put,List.setIfInBounds_toArray,List.set_cons_zero,List.set_cons_succ]
  refine' wpAnyH_take (i:=3) (v:=?_) rfl (by kernel_rfl) (by kernel_rfl) (by kernel_rfl) (fun _ _ _ h=>h) (Or.inl ⟨by rfl,?hy3x69⟩) hHeld ?rest3x69
  case hy3x69=>(intro w hSw;(try dsimp only at hSw);go_simp;try with_reducible rfl)
  simp only [Act.put,List.setIfInBounds_toArray,List.set_cons_zero,List.set_cons_succ]
  refine' wpAnyH_take (i:=4) (v:=?_) rfl (by kernel_rfl) (by kernel_rfl) (by kernel_rfl) (fun _ _ _ h=>h) (Or.inl ⟨by rfl,?hy4x70⟩) hHeld ?rest4x70
  case hy4x70=>(intro w hSw;(try dsimp only at hSw);go_simp;try with_reducible rfl)
  simp only [Act.put,List.setIfInBounds_toArray,List.set_cons_zero,List.set_cons_succ]
  refine wpAnyH_ready (rs:=[1,14]) (by kernel_rfl) (by simp) ?_
  refine' (AllReadyH.cons rfl (fun K hK=>?st36x0) (AllReadyH.cons rfl (fun K hK=>?st36x1) AllReadyH.nil))
  case st36x0 =>
   go_simp
   refine (HPr.out _ (HTab.out _ HBc.out)).mono ?_
   rintro e w1 ⟨rfl,hb1⟩
   have HBc:=hid (HBc.out.trans (hb1.mono (Nat.le_of_lt HGc.out.lt)))
   have HGc:=hid (Bk.below HGc.out hb1)
   go_wp2_with fail
   refine hK.out _ _ ?_ (fun hHeld=>?_)
   ·exact (cellsH HGc.out).1
   clear hK K
   try simp only [Act.put,List.setIfInBounds_toArray,List.set_cons_zero,List.set_cons_succ]
   refine' wpAnyH_take (i:=5) (v:=?_) rfl (by kernel_rfl) (by kernel_rfl) (by kernel_rfl) (fun _ _ _ h=>h) (Or.inl ⟨by rfl,?hy5x71⟩) hHeld ?rest5x71
   case hy5x71=>(intro w hSw;(try dsimp only at hSw);go_simp;try with_reducible rfl)
   simp only [Act.put,List.setIfInBounds_toArray,List.set_cons_zero,List.set_cons_succ]
   refine' wpAnyH_take (i:=6) (v:=?_) rfl (by kernel_rfl) (by kernel_rfl) (by kernel_rfl) (fun _ _ _ h=>h) (Or.inl ⟨by rfl,?hy6x72⟩) hHeld ?rest6x72
   case hy6x72=>(intro w hSw;(try dsimp only at hSw);go_simp;try with_reducible rfl)
   simp only [Act.put,List.setIfInBounds_toArray,List.set_cons_zero,List.set_cons_succ]
   refine' wpAnyH_take (i:=7) (v:=?_) rfl (by kernel_rfl) (by kernel_rfl) (by kernel_rfl) (fun _ _ _ h=>h) (Or.inl ⟨by rfl,?hy7x73⟩) hHeld ?rest7x73
   case hy7x73=>(intro w hSw;(try dsimp only at hSw);go_simp;try with_reducible rfl)
   simp only [Act.put,List.setIfInBounds_toArray,List.set_cons_zero,List.set_cons_succ]
   refine' wpAnyH_take (i:=8) (v:=?_) rfl (by kernel_rfl) (by kernel_rfl) (by kernel_rfl) (fun _ _ _ h=>h) (Or.inl ⟨by rfl,?hy8x74⟩) hHeld ?rest8x74
   case hy8x74=>(intro w hSw;(try dsimp only at hSw);go_simp;try with_reducible rfl)
   simp only [Act.put,List.setIfInBounds_toArray,List.set_cons_zero,List.set_cons_succ]
   refine' wpAnyH_take (i:=9) (v:=?_) rfl (by kernel_rfl) (by kernel_rfl) (by kernel_rfl) (fun _ _ _ h=>h) (Or.inl ⟨by rfl,?hy9x75⟩) hHeld ?rest9x75
   case hy9x75=>(intro w hSw;(try dsimp only at hSw);go_simp;try with_reducible rfl)
   simp only [Act.put,List.setIfInBounds_toArray,List.set_cons_zero,List.set_cons_succ]
   refine wpAnyH_ready (rs:=[10,14]) (by kernel_rfl) (by simp) ?_
   refine' (AllReadyH.cons rfl (fun K hK=>?st32x0) (AllReadyH.cons rfl (fun K hK=>?st32x1) AllReadyH.nil))
   case st32x0 =>
    go_simp
    refine (HPa.out _ (HTab.out _ HBc.out)).mono ?_
    rintro e w2 ⟨a0,a1,a2,a3,a4,a5,a6,a7,hp,rfl,hb2⟩
    unfold hostV
    have HBc:=hid (HBc.out.trans (hb2.mono (Nat.le_of_lt HGc.out.lt)))
    have HGc:=hid (Bk.below HGc.out hb2)
    go_wp2_with fail
    refine hK.out _ _ ?_ (fun hHeld=>?_)
    ·exact (cellsH HGc.out).1
    clear hK K
    try simp only [Act.put,List.setIfInBounds_toArray,List.set_cons_zero,List.set_cons_succ]
    refine' wpAnyH_take (i:=11) (v:=?_) rfl (by kernel_rfl) (by kernel_rfl) (by kernel_rfl) (fun _ _ _ h=>h) (Or.inl ⟨by rfl,?hy11x76⟩) hHeld ?rest11x76
    case hy11x76=>(intro w hSw;(try dsimp only at hSw);go_simp;try with_reducible rfl)
    simp only [Act.put,List.setIfInBounds_toArray,List.set_cons_zero,List.set_cons_succ]
    refine' wpAnyH_take (i:=12) (v:=?_) rfl (by kernel_rfl) (by kernel_rfl) (by kernel_rfl) (fun _ _ _ h=>h) (Or.inl ⟨by rfl,?hy12x77⟩) hHeld ?rest12x77
    case hy12x77=>(intro w hSw;(try dsimp only at hSw);go_simp;try with_reducible rfl)
    simp only [Act.put,List.setIfInBounds_toArray,List.set_cons_zero,List.set_cons_succ]
    refine' wpAnyH_take (i:=13) (v:=?_) rfl (by kernel_rfl) (by kernel_rfl) (by kernel_rfl) (fun _ _ _ h=>h) (Or.inl ⟨by rfl,?hy13x78⟩) hHeld ?rest13x78
    case hy13x78=>(intro w hSw;(try dsimp only at hSw);go_simp;try with_reducible rfl)
    simp only [Act.put,List.setIfInBounds_toArray,List.set_cons_zero,List.set_cons_succ]
    refine wpAnyH_ready (rs:=[14]) (by kernel_rfl) (by simp) ?_
    refine' AllReadyH.cons rfl (fun K hK=>?_) AllReadyH.nil
    have HGp:=hid HGc.out
    have HBp:=hid HBc.out
    go_simp
    have hlt:=hid HGc.out.lt
    have HBc:=hid (HBc.out.alloc (Nat.le_of_lt HGc.out.lt) (.cells #[.int .i64 0,.string ⟨#[]⟩,.int .u32 0,.int .u16 0,.int .u16 0,.int .u16 0,.int .u16 0,.int .u16 0,.int .u16 0,.int .u16 0,.int .u16 0] 26))
    have HZc:=hid (zeroH_world (w2))
    have HGc:=hid (Bk.below HGc.out (ballH (w2) (.cells #[.int .i64 0,.string ⟨#[]⟩,.int .u32 0,.int .u16 0,.int .u16 0,.int .u16 0,.int .u16 0,.int .u16 0,.int .u16 0,.int .u16 0,.int .u16 0] 26)))
    refine hK.out _ _ ?_ (fun hHeld=>?_)
    ·exact (cellsH HGc.out).1
    clear hK K
    try simp only [Act.put,List.setIfInBounds_toArray,List.set_cons_zero,List.set_cons_succ]
    refine wpAnyH_ready (rs:=[15]) (by kernel_rfl) (by simp) ?_
    refine' AllReadyH.cons rfl (fun K hK=>?_) AllReadyH.nil
    have HE:=hid (may_new HGp.out HBp.out (.int .i64 (HR fl).1.1) (.string (strOf (HR fl).1.2.1)) (.int .u32 (((HR fl).1.2.2.1:Nat):Int)) (.int .u16 (a0:Int)) (.int .u16 (a1:Int)) (.int .u16 (a2:Int)) (.int .u16 (a3:Int)) (.int .u16 (a4:Int)) (.int .u16 (a5:Int)) (.int .u16 (a6:Int)) (.int .u16 (a7:Int)))
    go_simp
    refine hK.out _ _ ?_ (fun hHeld=>?_)
    ·exact (cellsH HE.out.2.1).1
    clear hK K
    try simp only [Act.put,List.setIfInBounds_toArray,List.set_cons_zero,List.set_cons_succ]
    refine' wpAnyH_take (i:=16) (v:=?_) (by simp only [List.getElem?_toArray,List.getElem?_cons_succ,List.getElem?_cons_zero];rfl) (by kernel_rfl) (by kernel_rfl) (by kernel_rfl) (by intro _ _ _ h;exact h) (Or.inl ⟨by rfl,?hy16x79⟩) hHeld ?rest16x79
    case hy16x79=>(intro w hSw;(try dsimp only at hSw);go_simp;try with_reducible rfl)
    simp only [Act.put,List.setIfInBounds_toArray,List.set_cons_zero,List.set_cons_succ]
    refine wpAnyH_done (by kernel_rfl) ?_ _
    go_wp2_with fail
    go_meet
    case rel=>exact ⟨_,rfl,hlt.out,HE.out.1,HE.out.2.1,_,_,_,_,_,_,_,_,_,_,_,_,(pair_eq hp),rfl,HE.out.2.2⟩
   case st32x1 =>
    go_simp
    have hlt:=hid HGc.out.lt
    have HBc:=hid (HBc.out.alloc (Nat.le_of_lt HGc.out.lt) (.cells #[.int .i64 0,.string ⟨#[]⟩,.int .u32 0,.int .u16 0,.int .u16 0,.int .u16 0,.int .u16 0,.int .u16 0,.int .u16 0,.int .u16 0,.int .u16 0] 26))
    have HZc:=hid (zeroH_world (w1))
    have HGc:=hid (Bk.below HGc.out (ballH (w1) (.cells #[.int .i64 0,.string ⟨#[]⟩,.int .u32 0,.int .u16 0,.int .u16 0,.int .u16 0,.int .u16 0,.int .u16 0,.int .u16 0,.int .u16 0,.int .u16 0] 26)))
    refine hK.out _ _ ?_ (fun hHeld=>?_)
    ·exact (cellsH HGc.out).1
    clear hK K
    try simp only [Act.put,List.setIfInBounds_toArray,List.set_cons_zero,List.set_cons_succ]
    refine wpAnyH_ready (rs:=[10]) (by kernel_rfl) (by simp) ?_
    refine' AllReadyH.cons rfl (fun K hK=>?_) AllReadyH.nil
    go_simp
    refine (HPa.out _ (HTab.out _ HBc.out)).mono ?_
    rintro e w2 ⟨a0,a1,a2,a3,a4,a5,a6,a7,hp,rfl,hb2⟩
    unfold hostV
    have HBc:=hid (HBc.out.trans (hb2.mono (Nat.le_of_lt HGc.out.lt)))
    have HGc:=hid (Bk.below HGc.out hb2)
    have HZc:=hid (Bk.below HZc.out hb2)
    go_wp2_with fail
    refine hK.out _ _ ?_ (fun hHeld=>?_)
    ·exact (cellsH HGc.out).1
    clear hK K
    try simp only [Act.put,List.setIfInBounds_toArray,List.set_cons_zero,List.set_cons_succ]
    refine' wpAnyH_take (i:=11) (v:=?_) rfl (by kernel_rfl) (by kernel_rfl) (by kernel_rfl) (fun _ _ _ h=>h) (Or.inl ⟨by rfl,?hy11x80⟩) hHeld ?rest11x80
    case hy11x80=>(intro w hSw;(try dsimp only at hSw);go_simp;try with_reducible rfl)
    simp only [Act.put,List.setIfInBounds_toArray,List.set_cons_zero,List.set_cons_succ]
    refine' wpAnyH_take (i:=12) (v:=?_) rfl (by kernel_rfl) (by kernel_rfl) (by kernel_rfl) (fun _ _ _ h=>h) (Or.inl ⟨by rfl,?hy12x81⟩) hHeld ?rest12x81
    case hy12x81=>(intro w hSw;(try dsimp only at hSw);go_simp;try with_reducible rfl)
    simp only [Act.put,List.setIfInBounds_toArray,List.set_cons_zero,List.set_cons_succ]
    refine' wpAnyH_take (i:=13) (v:=?_) rfl (by kernel_rfl) (by kernel_rfl) (by kernel_rfl) (fun _ _ _ h=>h) (Or.inl ⟨by rfl,?hy13x82⟩) hHeld ?rest13x82
    case hy13x82=>(intro w hSw;(try dsimp only at hSw);go_simp;try with_reducible rfl)
    simp only [Act.put,List.setIfInBounds_toArray,List.set_cons_zero,List.set_cons_succ]
    refine wpAnyH_ready (rs:=[15]) (by kernel_rfl) (by simp) ?_
    refine' AllReadyH.cons rfl (fun K hK=>?_) AllReadyH.nil
    obtain ⟨⟨c0,c1,c2,c3,c4,c5,c6,c7,c8,c9,c10⟩,⟨f0,f1,f2,f3,f4,f5,f6,f7,f8,f9,f10⟩⟩:=cellsZ HZc.out
    have HE:=hid (may_end HZc.out HGc.out hlt.out HBc.out (.int .i64 (HR fl).1.1) (.string (strOf (HR fl).1.2.1)) (.int .u32 (((HR fl).1.2.2.1:Nat):Int)) (.int .u16 (a0:Int)) (.int .u16 (a1:Int)) (.int .u16 (a2:Int)) (.int .u16 (a3:Int)) (.int .u16 (a4:Int)) (.int .u16 (a5:Int)) (.int .u16 (a6:Int)) (.int .u16 (a7:Int)))
    go_simp
    refine hK.out _ _ ?_ (fun hHeld=>?_)
    ·exact (cellsH HE.out.2.1).1
    clear hK K
    try simp only [Act.put,List.setIfInBounds_toArray,List.set_cons_zero,List.set_cons_succ]
    refine' wpAnyH_take (i:=16) (v:=?_) (by simp only [List.getElem?_toArray,List.getElem?_cons_succ,List.getElem?_cons_zero];rfl) (by kernel_rfl) (by kernel_rfl) (by kernel_rfl) (by intro _ _ _ h;exact h) (Or.inl ⟨by rfl,?hy16x83⟩) hHeld ?rest16x83
    case hy16x83=>(intro w hSw;(try dsimp only at hSw);go_simp;try with_reducible rfl)
    simp only [Act.put,List.setIfInBounds_toArray,List.set_cons_zero,List.set_cons_succ]
    refine wpAnyH_done (by kernel_rfl) ?_ _
    go_wp2_with fail
    go_meet
    case rel=>exact ⟨_,rfl,hlt.out,HE.out.1,HE.out.2.1,_,_,_,_,_,_,_,_,_,_,_,_,(pair_eq hp),rfl,HE.out.2.2⟩
  case st36x1 =>
   go_simp
   have hlt:Hid (G < w0.heap.size):=hid HGc.out.lt
   have HBc:=hid (HBc.out.alloc (Nat.le_of_lt HGc.out.lt) (.cells #[.int .i64 0,.string ⟨#[]⟩,.int .u32 0,.int .u16 0,.int .u16 0,.int .u16 0,.int .u16 0,.int .u16 0,.int .u16 0,.int .u16 0,.int .u16 0] 26))
   have HZc:Hid (BkH (w0.drew.alloc (.cells #[.int .i64 0,.string ⟨#[]⟩,.int .u32 0,.int .u16 0,.int .u16 0,.int .u16 0,.int .u16 0,.int .u16 0,.int .u16 0,.int .u16 0,.int .u16 0] 26)) w0.heap.size zeroH):=hid (zeroH_world w0.drew)
   have HGc:=hid (Bk.below HGc.out (ballH (w0.drew) (.cells #[.int .i64 0,.string ⟨#[]⟩,.int .u32 0,.int .u16 0,.int .u16 0,.int .u16 0,.int .u16 0,.int .u16 0,.int .u16 0,.int .u16 0,.int .u16 0] 26)))
   refine hK.out _ _ ?_ (fun hHeld=>?_)
   ·exact (cellsH HGc.out).1
   clear hK K
   try simp only [Act.put,List.setIfInBounds_toArray,List.set_cons_zero,List.set_cons_succ]
   refine wpAnyH_ready (rs:=[1]) (by kernel_rfl) (by simp) ?_
   refine' AllReadyH.cons rfl (fun K hK=>?_) AllReadyH.nil
   go_simp
   refine (HPr.out _ (HTab.out _ HBc.out)).mono ?_
   rintro e w1 ⟨rfl,hb1⟩
   have HBc:=hid (HBc.out.trans (hb1.mono (Nat.le_of_lt HGc.out.lt)))
   have HGc:=hid (Bk.below HGc.out hb1)
   have HZc:=hid (Bk.below HZc.out hb1)
   go_wp2_with fail
   refine hK.out _ _ ?_ (fun hHeld=>?_)
   ·exact (cellsH HGc.out).1
   clear hK K
   try simp only [Act.put,List.setIfInBounds_toArray,List.set_cons_zero,List.set_cons_succ]
   refine' wpAnyH_take (i:=5) (v:=?_) rfl (by kernel_rfl) (by kernel_rfl) (by kernel_rfl) (fun _ _ _ h=>h) (Or.inl ⟨by rfl,?hy5x84⟩) hHeld ?rest5x84
   case hy5x84=>(intro w hSw;(try dsimp only at hSw);go_simp;try with_reducible rfl)
   simp only [Act.put,List.setIfInBounds_toArray,List.set_cons_zero,List.set_cons_succ]
   refine' wpAnyH_take (i:=6) (v:=?_) rfl (by kernel_rfl) (by kernel_rfl) (by kernel_rfl) (fun _ _ _ h=>h) (Or.inl ⟨by rfl,?hy6x85⟩) hHeld ?rest6x85
   case hy6x85=>(intro w hSw;(try dsimp only at hSw);go_simp;try with_reducible rfl)
   simp only [Act.put,List.setIfInBounds_toArray,List.set_cons_zero,List.set_cons_succ]
   refine' wpAnyH_take (i:=7) (v:=?_) rfl (by kernel_rfl) (by kernel_rfl) (by kernel_rfl) (fun _ _ _ h=>h) (Or.inl ⟨by rfl,?hy7x86⟩) hHeld ?rest7x86
   case hy7x86=>(intro w hSw;(try dsimp only at hSw);go_simp;try with_reducible rfl)
   simp only [Act.put,List.setIfInBounds_toArray,List.set_cons_zero,List.set_cons_succ]
   refine' wpAnyH_take (i:=8) (v:=?_) rfl (by kernel_rfl) (by kernel_rfl) (by kernel_rfl) (fun _ _ _ h=>h) (Or.inl ⟨by rfl,?hy8x87⟩) hHeld ?rest8x87
   case hy8x87=>(intro w hSw;(try dsimp only at hSw);go_simp;try with_reducible rfl)
   simp only [Act.put,List.setIfInBounds_toArray,List.set_cons_zero,List.set_cons_succ]
   refine' wpAnyH_take (i:=9) (v:=?_) rfl (by kernel_rfl) (by kernel_rfl) (by kernel_rfl) (fun _ _ _ h=>h) (Or.inl ⟨by rfl,?hy9x88⟩) hHeld ?rest9x88
   case hy9x88=>(intro w hSw;(try dsimp only at hSw);go_simp;try with_reducible rfl)
   simp only [Act.put,List.setIfInBounds_toArray,List.set_cons_zero,List.set_cons_succ]
   refine wpAnyH_ready (rs:=[10]) (by kernel_rfl) (by simp) ?_
   refine' AllReadyH.cons rfl (fun K hK=>?_) AllReadyH.nil
   go_simp
   refine (HPa.out _ (HTab.out _ HBc.out)).mono ?_
   rintro e w2 ⟨a0,a1,a2,a3,a4,a5,a6,a7,hp,rfl,hb2⟩
   unfold hostV
   have HBc:=hid (HBc.out.trans (hb2.mono (Nat.le_of_lt HGc.out.lt)))
   have HGc:=hid (Bk.below HGc.out hb2)
   have HZc:=hid (Bk.below HZc.out hb2)
   go_wp2_with fail
   refine hK.out _ _ ?_ (fun hHeld=>?_)
   ·exact (cellsH HGc.out).1
   clear hK K
   try simp only [Act.put,List.setIfInBounds_toArray,List.set_cons_zero,List.set_cons_succ]
   refine' wpAnyH_take (i:=11) (v:=?_) rfl (by kernel_rfl) (by kernel_rfl) (by kernel_rfl) (fun _ _ _ h=>h) (Or.inl ⟨by rfl,?hy11x89⟩) hHeld ?rest11x89
   case hy11x89=>(intro w hSw;(try dsimp only at hSw);go_simp;try with_reducible rfl)
   simp only [Act.put,List.setIfInBounds_toArray,List.set_cons_zero,List.set_cons_succ]
   refine' wpAnyH_take (i:=12) (v:=?_) rfl (by kernel_rfl) (by kernel_rfl) (by kernel_rfl) (fun _ _ _ h=>h) (Or.inl ⟨by rfl,?hy12x90⟩) hHeld ?rest12x90
   case hy12x90=>(intro w hSw;(try dsimp only at hSw);go_simp;try with_reducible rfl)
   simp only [Act.put,List.setIfInBounds_toArray,List.set_cons_zero,List.set_cons_succ]
   refine' wpAnyH_take (i:=13) (v:=?_) rfl (by kernel_rfl) (by kernel_rfl) (by kernel_rfl) (fun _ _ _ h=>h) (Or.inl ⟨by rfl,?hy13x91⟩) hHeld ?rest13x91
   case hy13x91=>(intro w hSw;(try dsimp only at hSw);go_simp;try with_reducible rfl)
   simp only [Act.put,List.setIfInBounds_toArray,List.set_cons_zero,List.set_cons_succ]
   refine wpAnyH_ready (rs:=[15]) (by kernel_rfl) (by simp) ?_
   refine' AllReadyH.cons rfl (fun K hK=>?_) AllReadyH.nil
   obtain ⟨⟨c0,c1,c2,c3,c4,c5,c6,c7,c8,c9,c10⟩,⟨f0,f1,f2,f3,f4,f5,f6,f7,f8,f9,f10⟩⟩:=cellsZ HZc.out
   have HE:=hid (may_end HZc.out HGc.out hlt.out HBc.out (.int .i64 (HR fl).1.1) (.string (strOf (HR fl).1.2.1)) (.int .u32 (((HR fl).1.2.2.1:Nat):Int)) (.int .u16 (a0:Int)) (.int .u16 (a1:Int)) (.int .u16 (a2:Int)) (.int .u16 (a3:Int)) (.int .u16 (a4:Int)) (.int .u16 (a5:Int)) (.int .u16 (a6:Int)) (.int .u16 (a7:Int)))
   go_simp
   refine hK.out _ _ ?_ (fun hHeld=>?_)
   ·exact (cellsH HE.out.2.1).1
   clear hK K
   try simp only [Act.put,List.setIfInBounds_toArray,List.set_cons_zero,List.set_cons_succ]
   refine' wpAnyH_take (i:=16) (v:=?_) (by simp only [List.getElem?_toArray,List.getElem?_cons_succ,List.getElem?_cons_zero];rfl) (by kernel_rfl) (by kernel_rfl) (by kernel_rfl) (by intro _ _ _ h;exact h) (Or.inl ⟨by rfl,?hy16x92⟩) hHeld ?rest16x92
   case hy16x92=>(intro w hSw;(try dsimp only at hSw);go_simp;try with_reducible rfl)
   simp only [Act.put,List.setIfInBounds_toArray,List.set_cons_zero,List.set_cons_succ]
   refine wpAnyH_done (by kernel_rfl) ?_ _
   go_wp2_with fail
   go_meet
   case rel=>exact ⟨_,rfl,hlt.out,HE.out.1,HE.out.2.1,_,_,_,_,_,_,_,_,_,_,_,_,(pair_eq hp),rfl,HE.out.2.2⟩
 case rest =>
  obtain ⟨X,rfl,hlt,hbw,hg,r1,r2,r3,a0,a1,a2,a3,a4,a5,a6,a7,m,hr,rfl,hz⟩:=hcut
  rw [hr] at HM
  have HBw:=hid hbw
  have hlg:=hid hg.lt
  obtain ⟨⟨c0,c1,c2,c3,c4,c5,c6,c7,c8,c9,c10⟩,-⟩:=cellsH hg
  obtain ⟨⟨d0,d1,d2,d3,d4,d5,d6,d7,d8,d9,d10⟩,-⟩:=cellsH hz
  clear hlt hbw hg hz hr HPr HPa HG0 HB0
  by_cases hm:m=0
  ·have m1:((m:Int)==0)=true:=by rw [hm];rfl
   have HM2:Hid ((((r1,r2,r3,[a0,a1,a2,a3,a4,a5,a6,a7]):HostN)==(k,s.data.toList,n,[p0,p1,p2,p3,p4,p5,p6,p7]))=M):=by
    show _=_
    have h:=HM.out
    simp only [hm,beq_self_eq_true,Bool.true_and] at h
    exact h
   clear hm HM
   have heq:=eq_host r1 (strOf r2) r3 a0 a1 a2 a3 a4 a5 a6 a7 k s n p0 p1 p2 p3 p4 p5 p6 p7
   simp only [sameV_iff,str_data,HM2.out] at heq
   have hgd:Tryz.prog.eqGuardType Tryz.prog.depth 26=false:=by kernel_rfl
   cases M
   ·go_wp2_with fail
    go_ret
    exact ⟨rfl,by rw [HGG.out];exact HBw.out⟩
   ·go_wp2_with fail
    go_ret
    exact ⟨rfl,by rw [HGG.out];exact HBw.out⟩
  ·have m1:((m:Int)==0)=false:=by rw [beq_eq_false_iff_ne];omega
   have HM2:Hid (M=false):=by
    show _=_
    have h:=HM.out
    have e:(m==0)=false:=beq_eq_false_iff_ne.2 hm
    simp only [e,Bool.false_and] at h
    exact h.symm
   clear hm HM
   go_wp2_with fail
   go_ret
   exact ⟨by rw [HM2.out];rfl,by rw [HGG.out];exact HBw.out⟩
theorem hmay_calls (k:Int) (s:ByteArray) (n p0 p1 p2 p3 p4 p5 p6 p7:Nat) (w:World) (hn:n < 4294967296) (hx:∀x∈[p0,p1,p2,p3,p4,p5,p6,p7],x < 65536) (hs:s.size≤100000) (T0:TabH w) :
 Calls Tryz.prog 24 #[hostV k s n p0 p1 p2 p3 p4 p5 p6 p7] w fun e w'=>e=.returned (.bool (mayR (k,s.data.toList,n,[p0,p1,p2,p3,p4,p5,p6,p7])))∧Below w.heap.size w w':=by
 by_cases h1:k=1
 ·subst h1
  exact hmay_one s n p0 p1 p2 p3 p4 p5 p6 p7 w hn hx hs T0
 ·exact hmay_any k h1 s n p0 p1 p2 p3 p4 p5 p6 p7 w hn hx hs T0
end Go.Proofs.YtigfgloenjoeoaaGreatDoor
