import Derived.Test.YtpohekldddbneaaGreatDoorDaAP
import Derived.Test.YtpohekldddbneaaGreatDoorDaAQ
import Derived.Handy
set_option linter.unusedVariables false
set_option linter.unusedSimpArgs false
set_option maxRecDepth 20000
set_option maxHeartbeats 16000000
namespace Go.Proofs.YtpohekldddbneaaGreatDoor
open Go.RowKit
def f16 (n:Nat):Value:=.int .u16 (n:Int)
def aggL (ns:List Nat):Value:=.agg (ns.map f16).toArray
def Blk (w:World) (g:Nat) (xs:List Nat):Prop:=w.heap[g]? = some (.cells (xs.map f16).toArray 25)
theorem Blk.lt {w:World} {g:Nat} {xs:List Nat} (h:Blk w g xs):g < w.heap.size:=by
 rcases Nat.lt_or_ge g w.heap.size with h' | h'
 ·exact h'
 ·unfold Blk at h
  rw [Array.getElem?_eq_none h'] at h
  cases h
theorem Blk.cell {w:World} {g:Nat} {xs:List Nat} (h:Blk w g xs) (i:Nat) (hi:i < xs.length):w.cell? ⟨g,i,none⟩=some (.int .u16 ((xs[i]:Nat):Int))∧w.frozen? ⟨g,i,none⟩=false:=by
 unfold Blk at h
 constructor
 ·simp [World.cell?,h,hi,f16]
 ·simp [World.frozen?,h]
theorem Blk.below {w w':World} {g:Nat} {xs:List Nat} (h:Blk w g xs) (hb:Below w.heap.size w w'):Blk w' g xs:=by
 have:=hb.block g h.lt
 unfold Blk at h ⊢
 rw [this,h]
theorem Blk.set {w:World} {g:Nat} {xs:List Nat} (h:Blk w g xs) (i x:Nat):Blk (w.setCell ⟨g,i,none⟩ (.int .u16 (x:Int))) g (xs.set i x):=by
 unfold Blk at h ⊢
 rw [heap_setCell_same w g i _ _ _ h]
 simp [f16,List.map_set]
theorem Blk.other {w:World} {g:Nat} {xs:List Nat} (h:Blk w g xs) (a:Addr) (v:Value) (hn:g≠a.block):Blk (w.setCell a v) g xs:=by
 unfold Blk at h ⊢
 rw [heap_setCell_other w a g v hn,h]
theorem grown_set (w:World) (g i:Nat) (v:Value):w.grownBy (w.setCell ⟨g,i,none⟩ v) (some g) :=
 ⟨rfl,rfl,rfl,by simp [World.setCell],fun k hk hne=>heap_setCell_other w _ k _ (by intro e;exact hne (by rw [e]))⟩
theorem below_set {B:Nat} {w w':World} (h:Below B w w') {g:Nat} (hg:B≤g) (hs:B≤w'.heap.size) (i:Nat) (v:Value):Below B w (w'.setCell ⟨g,i,none⟩ v) :=
 h.grown (grown_set w' g i v) hs (fun k hk=>by cases hk;exact hg)
theorem eight {xs:List Nat} (h:xs.length=8):∃x0 x1 x2 x3 x4 x5 x6 x7,xs=[x0,x1,x2,x3,x4,x5,x6,x7]:=by
 match xs,h with
 | [x0,x1,x2,x3,x4,x5,x6,x7],_=>exact ⟨x0,x1,x2,x3,x4,x5,x6,x7,rfl⟩
theorem fill8 {B G:Nat} {w w3:World} {y0 y1 y2 y3 y4 y5 y6 y7:Nat} (hb:Blk w3 G [y0,y1,y2,y3,y4,y5,y6,y7]) (hB:Below B w w3) (hG:B≤G) (hs:B≤w3.heap.size) (x0 x1 x2 x3 x4 x5 x6 x7:Nat) :
 Blk ((((((((w3.setCell ⟨G,0,none⟩ (.int .u16 (x0:Int))).setCell ⟨G,1,none⟩ (.int .u16 (x1:Int))).setCell ⟨G,2,none⟩ (.int .u16 (x2:Int))).setCell ⟨G,3,none⟩ (.int .u16 (x3:Int))).setCell ⟨G,4,none⟩ (.int .u16 (x4:Int))).setCell ⟨G,5,none⟩ (.int .u16 (x5:Int))).setCell ⟨G,6,none⟩ (.int .u16 (x6:Int))).setCell ⟨G,7,none⟩ (.int .u16 (x7:Int))) G [x0,x1,x2,x3,x4,x5,x6,x7] ∧
 Below B w ((((((((w3.setCell ⟨G,0,none⟩ (.int .u16 (x0:Int))).setCell ⟨G,1,none⟩ (.int .u16 (x1:Int))).setCell ⟨G,2,none⟩ (.int .u16 (x2:Int))).setCell ⟨G,3,none⟩ (.int .u16 (x3:Int))).setCell ⟨G,4,none⟩ (.int .u16 (x4:Int))).setCell ⟨G,5,none⟩ (.int .u16 (x5:Int))).setCell ⟨G,6,none⟩ (.int .u16 (x6:Int))).setCell ⟨G,7,none⟩ (.int .u16 (x7:Int))):=by
 refine ⟨(((((((hb.set 0 x0).set 1 x1).set 2 x2).set 3 x3).set 4 x4).set 5 x5).set 6 x6).set 7 x7,?_⟩
 refine below_set (below_set (below_set (below_set (below_set (below_set (below_set (below_set hB hG hs 0 _) hG ?_ 1 _) hG ?_ 2 _) hG ?_ 3 _) hG ?_ 4 _) hG ?_ 5 _) hG ?_ 6 _) hG ?_ 7 _
 all_goals simpa [World.setCell] using hs
theorem fill_step {b:List Nat} {j n:Nat} (hj:j < b.length) (hn:j < n):(b.take j++List.replicate (n-j) 0).set j b[j]=b.take (j+1)++List.replicate (n-(j+1)) 0:=by
 have hl:(b.take j).length=j:=by rw [List.length_take];omega
 rw [List.set_append_right _ _ (by omega),hl,Nat.sub_self,List.take_succ_eq_append_getElem hj,show n-j=(n-(j+1))+1 by omega,List.replicate_succ,List.set_cons_zero,List.append_assoc]
 rfl
theorem fill_len {b:List Nat} {j n:Nat} (hj:j≤b.length) (hn:j≤n):(b.take j++List.replicate (n-j) 0).length=n:=by
 rw [List.length_append,List.length_take,List.length_replicate];omega
def midR (a b:List Nat) (j:Nat):List Nat:=(a++List.replicate (8-(a.length+b.length)) 0)++(b.take j++List.replicate (b.length-j) 0)
theorem mid_len {a b:List Nat} (h:a.length+b.length≤7) {j:Nat} (hj:j≤b.length):(midR a b j).length=8:=by
 unfold midR
 rw [List.length_append,fill_len hj hj,List.length_append,List.length_replicate]
 omega
theorem mid_start {a b:List Nat} (h:a.length+b.length≤7):midR a b 0=a.take a.length++List.replicate (8-a.length) 0:=by
 unfold midR
 rw [List.take_zero,List.nil_append,List.take_length,List.append_assoc,List.replicate_append_replicate]
 congr 2
 omega
theorem mid_step {a b:List Nat} (h:a.length+b.length≤7) {j:Nat} (hj:j < b.length):(midR a b j).set (8-b.length+j) b[j]=midR a b (j+1):=by
 have hl:(a++List.replicate (8-(a.length+b.length)) 0).length=8-b.length:=by rw [List.length_append,List.length_replicate];omega
 unfold midR
 rw [List.set_append_right _ _ (by omega),hl,show 8-b.length+j-(8-b.length)=j by omega,fill_step hj hj]
theorem mid_end {a b:List Nat}:midR a b b.length=a++List.replicate (8-(a.length+b.length)) 0++b:=by
 unfold midR
 rw [List.take_length,Nat.sub_self,List.replicate_zero,List.append_nil]
theorem wrap16 (x:Nat) (h:x < 65536):IntKind.wrap .u16 (x:Int)=(x:Int):=by rw [IntKind.wrap_u16];omega
def CutAtIp (l:List UInt8) (k:Nat):Prop:=k≤l.length∧cutG [] l=cutG (l.take k) (l.drop k)
theorem CutAtIp.start (l:List UInt8):CutAtIp l 0:=⟨Nat.zero_le _,by simp⟩
theorem two_drop {l:List UInt8} {k:Nat} (h:k+1 < l.length):l.drop k=l[k]::l[k+1]::l.drop (k+2):=by
 rw [List.drop_eq_getElem_cons (show k < l.length by omega),List.drop_eq_getElem_cons h]
theorem CutAtIp.found {l:List UInt8} {k:Nat} (h:CutAtIp l k) (hk:k+1 < l.length) (h1:l[k]=58) (h2:l[k+1]=58):cutG [] l=some (l.take k,l.drop (k+2)):=by
 rw [h.2,two_drop hk,h1,h2,cut_two]
theorem CutAtIp.more {l:List UInt8} {k:Nat} (h:CutAtIp l k) (hk:k+1 < l.length) (hn:¬(l[k]=58∧l[k+1]=58)):CutAtIp l (k+1):=by
 refine ⟨by omega,?_⟩
 rw [h.2,two_drop hk,List.take_succ_eq_append_getElem (show k < l.length by omega),List.drop_eq_getElem_cons hk]
 show (if l[k]=58∧l[k+1]=58 then some (l.take k,l.drop (k+2)) else cutG (l.take k++[l[k]]) (l[k+1]::l.drop (k+2)))=_
 rw [if_neg hn]
theorem CutAtIp.none {l:List UInt8} {k:Nat} (h:CutAtIp l k) (hk:¬k+1 < l.length):cutG [] l=none:=by
 rw [h.2]
 have hl:(l.drop k).length≤1:=by rw [List.length_drop];omega
 match l.drop k,hl with
 | [],_=>rfl
 | [a],_=>rfl
 | a::b::r,hl=>exfalso;simp at hl
theorem pieces_len {last:Bool} {l:List UInt8} {ns:List Nat} (h:piecesR last l=some ns):ns.length≤l.length+2:=by
 unfold piecesR at h
 split at h
 ·injection h with h
  subst h
  exact Nat.zero_le _
 ·have h1:=(goP_lt last h).1
  have h2:=splitG_len 58 l []
  unfold splitR at h1
  omega
def P6Post (l:List UInt8) (w:World) (e:Ending) (w':World):Prop:=e=.returned (.tuple #[aggL (parse6R l).1,.int .i64 ((parse6R l).2:Int)])∧Below w.heap.size w w'
theorem P6Post.mk {l:List UInt8} {w w':World} {ns:List Nat} {m:Nat} (h:parse6R l=(ns,m)) (hb:Below w.heap.size w w'):P6Post l w (.returned (.tuple #[aggL ns,.int .i64 (m:Int)])) w':=by unfold P6Post;rw [h];exact ⟨rfl,hb⟩
theorem parse6_one {l:List UInt8} (h:¬4000 < l.length) (hc:cutG [] l=none):parse6R l=oneR (piecesR true l):=by unfold parse6R;rw [if_neg h,hc]
theorem parse6_two {l a b:List UInt8} (h:¬4000 < l.length) (hc:cutG [] l=some (a,b)):parse6R l=twoR (piecesR false a) (piecesR true b):=by unfold parse6R;rw [if_neg h,hc]
theorem zero_world (w:World):Blk ((w.alloc (.cells #[.int .u16 0,.int .u16 0,.int .u16 0,.int .u16 0,.int .u16 0,.int .u16 0,.int .u16 0,.int .u16 0] 25)).alloc (.cells #[.int .u16 0,.int .u16 0,.int .u16 0,.int .u16 0,.int .u16 0,.int .u16 0,.int .u16 0,.int .u16 0] 25)) w.heap.size z8∧Blk ((w.alloc (.cells #[.int .u16 0,.int .u16 0,.int .u16 0,.int .u16 0,.int .u16 0,.int .u16 0,.int .u16 0,.int .u16 0] 25)).alloc (.cells #[.int .u16 0,.int .u16 0,.int .u16 0,.int .u16 0,.int .u16 0,.int .u16 0,.int .u16 0,.int .u16 0] 25)) (w.heap.size+1) z8:=⟨heap_alloc2_old w _ _,heap_alloc2_new w _ _⟩
theorem parse6_calls (s:ByteArray) (w:World) (hs:s.size≤100000):Calls Tryz.prog 23 #[.string s] w fun e w'=>P6Post s.data.toList w e w':=by
 have HLN:=hid (bytes_num s)
 by_cases h4000:4000 < s.size
 ·have HX:Hid (parse6R s.data.toList=(z8,11)):=by show _=_;unfold parse6R;rw [if_pos (by rw [HLN.out];exact h4000)]
  have s1:(4000:Int) < (s.size:Int):=by omega
  clear h4000
  go_enter Tryz.func23,Tryz.ntmps23
  go_wp2_with fail
  go_returns
  exact P6Post.mk HX.out (((Below.refl _ _).alloc (Nat.le_refl _) _).alloc (by simp) _)
 ·have s1:¬(4000:Int) < (s.size:Int):=by omega
  have s2:(s.size:Int)≤4000:=by omega
  have HL:Hid (¬4000 < s.data.toList.length):=by show¬_;rw [HLN.out];exact h4000
  have HZ:=hid (zero_world w)
  have HB0:Hid (Below w.heap.size w ((w.alloc (.cells #[.int .u16 0,.int .u16 0,.int .u16 0,.int .u16 0,.int .u16 0,.int .u16 0,.int .u16 0,.int .u16 0] 25)).alloc (.cells #[.int .u16 0,.int .u16 0,.int .u16 0,.int .u16 0,.int .u16 0,.int .u16 0,.int .u16 0,.int .u16 0] 25))):=((Below.refl _ _).alloc (Nat.le_refl _) _).alloc (by simp) _
  have HS:=hid hs
  clear h4000 hs
  go_enter Tryz.func23,Tryz.ntmps23
  go_wp2_with fail
  generalize (w.alloc (.cells #[.int .u16 0,.int .u16 0,.int .u16 0,.int .u16 0,.int .u16 0,.int .u16 0,.int .u16 0,.int .u16 0] 25)).alloc (.cells #[.int .u16 0,.int .u16 0,.int .u16 0,.int .u16 0,.int .u16 0,.int .u16 0,.int .u16 0,.int .u16 0] 25)=w2 at *
  obtain ⟨G,hG⟩:∃G,w.heap.size=G:=⟨_,rfl⟩
  rw [hG] at HZ ⊢
  have HG:=hid hG
  clear hG
  obtain ⟨O,hO⟩:∃O,G+1=O:=⟨_,rfl⟩
  rw [hO] at HZ ⊢
  have HGO:Hid (G≠O):=by show G≠O;omega
  have HGO2:Hid (G≤O):=by show G≤O;omega
  clear hO
  go_loop [5,6] (fun vc vi=>∃k:Nat,vi=.int .i64 (k:Int)∧((vc=.int .i64 (-1)∧CutAtIp s.data.toList k)∨(∃c:Nat,vc=.int .i64 (c:Int)∧k=c+1∧c+2≤s.size∧cutG [] s.data.toList=some (s.data.toList.take c,s.data.toList.drop (c+2))))) (fun _ vi=>s.size-(intOf vi).toNat)
  case atStart=>exact ⟨0,rfl,.inl ⟨rfl,CutAtIp.start _⟩⟩
  case round =>
   obtain ⟨k,rfl,⟨rfl,hcut⟩ | ⟨c,rfl,rfl,hc2,hcut⟩⟩:=hrel
   ·have HC:=hid hcut
    have hkl:k≤s.size:=by have:=hcut.1;rw [HLN.out] at this;exact this
    have k0:(0:Int)≤(k:Int):=by omega
    have k9:(k:Int)≤4000:=by omega
    clear hcut
    by_cases hlt:k+1 < s.size
    ·have hl:k+1 < s.data.toList.length:=by rw [HLN.out];exact hlt
     have HFound:=hid (fun h1 h2=>HC.out.found hl h1 h2)
     have HMore:=hid (fun hn=>HC.out.more hl hn)
     have P0:k < s.size:=by omega
     obtain ⟨x,hx⟩:∃x,(s[k]'P0).toNat=x:=⟨_,rfl⟩
     obtain ⟨y,hy⟩:∃y,(s[k+1]'hlt).toNat=y:=⟨_,rfl⟩
     have hx':(s.data.toList[k]'(by omega)).toNat=x:=hx
     have hy':(s.data.toList[k+1]'hl).toNat=y:=hy
     have HF2:Hid (x=58→y=58→cutG [] s.data.toList=some (s.data.toList.take k,s.data.toList.drop (k+2))):=fun h1 h2=>HFound.out (UInt8.toNat_inj.1 (by rw [hx',h1];rfl)) (UInt8.toNat_inj.1 (by rw [hy',h2];rfl))
     have HM2:Hid (¬(x=58∧y=58)→CutAtIp s.data.toList (k+1)):=fun h=>HMore.out (fun e=>h ⟨by rw [← hx',e.1];rfl,by rw [← hy',e.2];rfl⟩)
     have k1:(k:Int)+1 < (s.size:Int):=by omega
     have k2:(k:Int) < (s.size:Int):=by omega
     have HK:=hid hlt
     clear hx' hy' HFound HMore hl hkl
     by_cases hx58:x=58
     ·by_cases hy58:y=58
      ·have HX:=hid (HF2.out hx58 hy58)
       subst hx58 hy58
       clear HF2 HM2
       go_wp2_with fail
       go_round
       case rel=>exact ⟨k+1,by go_num,.inr ⟨k,rfl,rfl,by have:=HK.out;omega,HX.out⟩⟩
       case measure=>have:=HK.out;simp [intOf];omega
      ·have HX:=hid (HM2.out (fun e=>hy58 e.2))
       have e2:((y:Int)==58)=false:=bN (by omega)
       subst hx58
       clear HF2 HM2 hy58
       go_wp2_with fail
       go_round
       case rel=>exact ⟨k+1,by go_num,.inl ⟨rfl,HX.out⟩⟩
       case measure=>have:=HK.out;simp [intOf];omega
     ·have HX:=hid (HM2.out (fun e=>hx58 e.1))
      have e1:((x:Int)==58)=false:=bN (by omega)
      clear HF2 HM2 hx58
      go_wp2_with fail
      go_round
      case rel=>exact ⟨k+1,by go_num,.inl ⟨rfl,HX.out⟩⟩
      case measure=>have:=HK.out;simp [intOf];omega
    ·have k1:¬(k:Int)+1 < (s.size:Int):=by omega
     have HP:=hid (parse6_one HL.out (HC.out.none (by rw [HLN.out];exact hlt)))
     have HPc:=hid (pieces_callsIp true s)
     clear hlt hkl
     go_wp2_with fail
     refine (HPc.out _ HS.out).mono ?_
     rintro e w3 ⟨hres,hb3⟩
     have hO2:O < w2.heap.size:=HZ.out.2.lt
     have HBO:=hid (HZ.out.2.below hb3)
     have HBG:=hid (HZ.out.1.below hb3)
     have HBW:=hid (HB0.out.trans (hb3.mono HB0.out.size))
     clear hb3
     rcases hres with ⟨hnone,rfl⟩ | ⟨ns,v,hsome,rfl,hrow⟩
     ·have HX:Hid (parse6R s.data.toList=(z8,4)):=by show _=_;rw [HP.out,hnone];rfl
      have HXL:Hid (z8.length=8):=rfl
      clear hnone
      generalize hz8:z8=xs at HX HXL HBO
      clear hz8
      obtain ⟨x0,x1,x2,x3,x4,x5,x6,x7,rfl⟩:=eight HXL.out
      obtain ⟨y0,y1,y2,y3,y4,y5,y6,y7,hys⟩:=eight (xs:=z8) rfl
      rw [hys] at HBG
      clear hys
      have c0:=(HBO.out.cell 0 (by show 0 < 8;decide)).1
      have c1:=(HBO.out.cell 1 (by show 1 < 8;decide)).1
      have c2:=(HBO.out.cell 2 (by show 2 < 8;decide)).1
      have c3:=(HBO.out.cell 3 (by show 3 < 8;decide)).1
      have c4:=(HBO.out.cell 4 (by show 4 < 8;decide)).1
      have c5:=(HBO.out.cell 5 (by show 5 < 8;decide)).1
      have c6:=(HBO.out.cell 6 (by show 6 < 8;decide)).1
      have c7:=(HBO.out.cell 7 (by show 7 < 8;decide)).1
      obtain ⟨d0,e0⟩:=HBG.out.cell 0 (by show 0 < 8;decide)
      obtain ⟨d1,e1⟩:=HBG.out.cell 1 (by show 1 < 8;decide)
      obtain ⟨d2,e2⟩:=HBG.out.cell 2 (by show 2 < 8;decide)
      obtain ⟨d3,e3⟩:=HBG.out.cell 3 (by show 3 < 8;decide)
      obtain ⟨d4,e4⟩:=HBG.out.cell 4 (by show 4 < 8;decide)
      obtain ⟨d5,e5⟩:=HBG.out.cell 5 (by show 5 < 8;decide)
      obtain ⟨d6,e6⟩:=HBG.out.cell 6 (by show 6 < 8;decide)
      obtain ⟨d7,e7⟩:=HBG.out.cell 7 (by show 7 < 8;decide)
      simp only [List.getElem_cons_zero,List.getElem_cons_succ] at c0 c1 c2 c3 c4 c5 c6 c7 d0 d1 d2 d3 d4 d5 d6 d7
      have HFill:=hid (fill8 HBG.out HBW.out (Nat.le_of_eq HG.out) HBW.out.size x0 x1 x2 x3 x4 x5 x6 x7)
      go_wp2_with fail
      generalize ((((((((w3.setCell ⟨G,0,none⟩ (.int .u16 (x0:Int))).setCell ⟨G,1,none⟩ (.int .u16 (x1:Int))).setCell ⟨G,2,none⟩ (.int .u16 (x2:Int))).setCell ⟨G,3,none⟩ (.int .u16 (x3:Int))).setCell ⟨G,4,none⟩ (.int .u16 (x4:Int))).setCell ⟨G,5,none⟩ (.int .u16 (x5:Int))).setCell ⟨G,6,none⟩ (.int .u16 (x6:Int))).setCell ⟨G,7,none⟩ (.int .u16 (x7:Int)))=W8 at *
      have g0:=(HFill.out.1.cell 0 (by show 0 < 8;decide)).1
      have g1:=(HFill.out.1.cell 1 (by show 1 < 8;decide)).1
      have g2:=(HFill.out.1.cell 2 (by show 2 < 8;decide)).1
      have g3:=(HFill.out.1.cell 3 (by show 3 < 8;decide)).1
      have g4:=(HFill.out.1.cell 4 (by show 4 < 8;decide)).1
      have g5:=(HFill.out.1.cell 5 (by show 5 < 8;decide)).1
      have g6:=(HFill.out.1.cell 6 (by show 6 < 8;decide)).1
      have g7:=(HFill.out.1.cell 7 (by show 7 < 8;decide)).1
      simp only [List.getElem_cons_zero,List.getElem_cons_succ] at g0 g1 g2 g3 g4 g5 g6 g7
      have HBL8:=hid HFill.out.2
      clear c0 c1 c2 c3 c4 c5 c6 c7 d0 d1 d2 d3 d4 d5 d6 d7 e0 e1 e2 e3 e4 e5 e6 e7 HFill
      refine bodyPost_ret (by simp [results,Tryz.results23,go_sem,g0,g1,g2,g3,g4,g5,g6,g7];try rfl) rfl ?_
      exact P6Post.mk HX.out HBL8.out
     ·have HNS:=hid (pieces_lt hsome)
      have hrow2:=hrow.row
      obtain ⟨ra,rcap,hva,r1,r2,-⟩:=hrow2
      rw [ints_len] at hva r1
      unfold maxLen at r2
      by_cases h8:ns.length=8
      ·have HX:Hid (parse6R s.data.toList=(ns,0)):=by
        show _=_
        rw [HP.out,hsome]
        show (if ns.length=8 then (ns,0) else (z8,4))=_
        rw [if_pos h8]
       have HXL:=hid h8
       have HRow:=hid hrow
       have n1:((ns.length:Int) != 8)=false:=by rw [h8];rfl
       have HB8:Hid (Blk w3 O (ns.take 0++List.replicate (8-0) 0)):=HBO.out
       have HO2:=hid hO2
       rw [hva] at HRow ⊢
       clear hsome hrow hva h8 HBO hO2
       go_wp2_with fail
       go_loopw [9] (fun vi wr=>∃k:Nat,k≤8∧vi=.int .i64 (k:Int)∧Blk wr O (ns.take k++List.replicate (8-k) 0)∧Blk wr G z8∧IOwn wr w2.heap.size (.slice ra ns.length rcap) (intsIp ns)∧Below w.heap.size w wr) (fun vi _=>8-(intOf vi).toNat)
       case atStart=>exact ⟨0,Nat.zero_le _,rfl,HB8.out,HBG.out,HRow.out,HBW.out⟩
       case round =>
        obtain ⟨j,hj,rfl,hbo,hbg,hro,hbw⟩:=hrel
        replace HBG:=hid hbg
        replace HBW:=hid hbw
        replace HRow:=hid hro
        have j0:(0:Int)≤(j:Int):=by omega
        clear hbg hbw hro
        by_cases hlt:j < 8
        ·have hjn:j < ns.length:=by rw [HXL.out];exact hlt
         obtain ⟨rb,roff,hra,hrl,hrc⟩:=row_at HRow.out.row (k:=j) (by rw [ints_len];exact hjn)
         have hxe:(intsIp ns)[j]'(by rw [ints_len];exact hjn)=((ns[j]'hjn:Nat):Int):=by simp [intsIp]
         rw [hxe] at hrc
         have hx16:=HNS.out _ (List.getElem_mem hjn)
         obtain ⟨oc,of⟩:=hbo.cell j (by rw [fill_len (by omega) (by omega)];exact hlt)
         have HSet:=hid (hbo.set j (ns[j]'hjn))
         rw [fill_step hjn hlt] at HSet
         have HGs:=hid (HBG.out.other ⟨O,j,none⟩ (.int .u16 ((ns[j]'hjn:Nat):Int)) HGO.out)
         have HRs:Hid (IOwn (wr.setCell ⟨O,j,none⟩ (.int .u16 ((ns[j]'hjn:Nat):Int))) w2.heap.size (.slice ra ns.length rcap) (intsIp ns)):=World.ownsRow.kept HRow.out (grown_set _ _ _ _) (.inr (fun e=>by have:=(World.ownsRow.lt HRow.out O e).1;have:=HO2.out;omega))
         have HBs:=hid (below_set HBW.out (Nat.le_trans (Nat.le_of_eq HG.out) HGO2.out) HBW.out.size j (.int .u16 ((ns[j]'hjn:Nat):Int)))
         generalize ns[j]'hjn=x at *
         have wx:=wrap16 x hx16
         have x0':(0:Int)≤(x:Int):=by omega
         have x9':(x:Int) < 65536:=by omega
         have j1:(j:Int) < 8:=by omega
         have j2:(j:Int) < (ns.length:Int):=by omega
         have HJ:=hid hlt
         obtain ⟨o1,ho1⟩:∃o1,(ns.take j++List.replicate (8-j) 0)[j]'(by rw [fill_len (by omega) (by omega)];exact hlt)=o1:=⟨_,rfl⟩
         rw [ho1] at oc
         subst hra
         clear hbo hxe hlt hjn hj ho1 hx16
         go_wp2_with fail
         go_roundw
         case rel=>exact ⟨j+1,HJ.out,by go_num,HSet.out,HGs.out,HRs.out,HBs.out⟩
         case measure=>have:=HJ.out;simp [intOf];omega
        ·have j1:¬(j:Int) < 8:=by omega
         have hj8:j=8:=by omega
         have HBO:Hid (Blk wr O ns):=by
          show Blk wr O ns
          have:=hbo
          rw [hj8,List.take_of_length_le (by rw [HXL.out];decide)] at this
          simpa using this
         clear hbo hlt hj hj8 HB8
         clear n1 r1 r2
         generalize (Value.slice ra ns.length rcap)=VV at *
         generalize hns:ns=xs at HX HXL HBO
         clear hns
         obtain ⟨x0,x1,x2,x3,x4,x5,x6,x7,rfl⟩:=eight HXL.out
         obtain ⟨y0,y1,y2,y3,y4,y5,y6,y7,hys⟩:=eight (xs:=z8) rfl
         rw [hys] at HBG
         clear hys
         have c0:=(HBO.out.cell 0 (by show 0 < 8;decide)).1
         have c1:=(HBO.out.cell 1 (by show 1 < 8;decide)).1
         have c2:=(HBO.out.cell 2 (by show 2 < 8;decide)).1
         have c3:=(HBO.out.cell 3 (by show 3 < 8;decide)).1
         have c4:=(HBO.out.cell 4 (by show 4 < 8;decide)).1
         have c5:=(HBO.out.cell 5 (by show 5 < 8;decide)).1
         have c6:=(HBO.out.cell 6 (by show 6 < 8;decide)).1
         have c7:=(HBO.out.cell 7 (by show 7 < 8;decide)).1
         obtain ⟨d0,e0⟩:=HBG.out.cell 0 (by show 0 < 8;decide)
         obtain ⟨d1,e1⟩:=HBG.out.cell 1 (by show 1 < 8;decide)
         obtain ⟨d2,e2⟩:=HBG.out.cell 2 (by show 2 < 8;decide)
         obtain ⟨d3,e3⟩:=HBG.out.cell 3 (by show 3 < 8;decide)
         obtain ⟨d4,e4⟩:=HBG.out.cell 4 (by show 4 < 8;decide)
         obtain ⟨d5,e5⟩:=HBG.out.cell 5 (by show 5 < 8;decide)
         obtain ⟨d6,e6⟩:=HBG.out.cell 6 (by show 6 < 8;decide)
         obtain ⟨d7,e7⟩:=HBG.out.cell 7 (by show 7 < 8;decide)
         simp only [List.getElem_cons_zero,List.getElem_cons_succ] at c0 c1 c2 c3 c4 c5 c6 c7 d0 d1 d2 d3 d4 d5 d6 d7
         have HFill:=hid (fill8 HBG.out HBW.out (Nat.le_of_eq HG.out) HBW.out.size x0 x1 x2 x3 x4 x5 x6 x7)
         go_wp2_with fail
         generalize ((((((((wr.setCell ⟨G,0,none⟩ (.int .u16 (x0:Int))).setCell ⟨G,1,none⟩ (.int .u16 (x1:Int))).setCell ⟨G,2,none⟩ (.int .u16 (x2:Int))).setCell ⟨G,3,none⟩ (.int .u16 (x3:Int))).setCell ⟨G,4,none⟩ (.int .u16 (x4:Int))).setCell ⟨G,5,none⟩ (.int .u16 (x5:Int))).setCell ⟨G,6,none⟩ (.int .u16 (x6:Int))).setCell ⟨G,7,none⟩ (.int .u16 (x7:Int)))=W8 at *
         have g0:=(HFill.out.1.cell 0 (by show 0 < 8;decide)).1
         have g1:=(HFill.out.1.cell 1 (by show 1 < 8;decide)).1
         have g2:=(HFill.out.1.cell 2 (by show 2 < 8;decide)).1
         have g3:=(HFill.out.1.cell 3 (by show 3 < 8;decide)).1
         have g4:=(HFill.out.1.cell 4 (by show 4 < 8;decide)).1
         have g5:=(HFill.out.1.cell 5 (by show 5 < 8;decide)).1
         have g6:=(HFill.out.1.cell 6 (by show 6 < 8;decide)).1
         have g7:=(HFill.out.1.cell 7 (by show 7 < 8;decide)).1
         simp only [List.getElem_cons_zero,List.getElem_cons_succ] at g0 g1 g2 g3 g4 g5 g6 g7
         have HBL8:=hid HFill.out.2
         clear c0 c1 c2 c3 c4 c5 c6 c7 d0 d1 d2 d3 d4 d5 d6 d7 e0 e1 e2 e3 e4 e5 e6 e7 HFill
         refine bodyPost_ret (by simp [results,Tryz.results23,go_sem,g0,g1,g2,g3,g4,g5,g6,g7];try rfl) rfl ?_
         exact P6Post.mk HX.out HBL8.out
      ·have HX:Hid (parse6R s.data.toList=(z8,4)):=by
        show _=_
        rw [HP.out,hsome]
        show (if ns.length=8 then (ns,0) else (z8,4))=_
        rw [if_neg h8]
       have HXL:Hid (z8.length=8):=rfl
       have n1:((ns.length:Int) != 8)=true:=by rw [bne_iff_ne];omega
       rw [hva]
       clear hsome hrow hva h8
       generalize hz8:z8=xs at HX HXL HBO
       clear hz8
       obtain ⟨x0,x1,x2,x3,x4,x5,x6,x7,rfl⟩:=eight HXL.out
       obtain ⟨y0,y1,y2,y3,y4,y5,y6,y7,hys⟩:=eight (xs:=z8) rfl
       rw [hys] at HBG
       clear hys
       have c0:=(HBO.out.cell 0 (by show 0 < 8;decide)).1
       have c1:=(HBO.out.cell 1 (by show 1 < 8;decide)).1
       have c2:=(HBO.out.cell 2 (by show 2 < 8;decide)).1
       have c3:=(HBO.out.cell 3 (by show 3 < 8;decide)).1
       have c4:=(HBO.out.cell 4 (by show 4 < 8;decide)).1
       have c5:=(HBO.out.cell 5 (by show 5 < 8;decide)).1
       have c6:=(HBO.out.cell 6 (by show 6 < 8;decide)).1
       have c7:=(HBO.out.cell 7 (by show 7 < 8;decide)).1
       obtain ⟨d0,e0⟩:=HBG.out.cell 0 (by show 0 < 8;decide)
       obtain ⟨d1,e1⟩:=HBG.out.cell 1 (by show 1 < 8;decide)
       obtain ⟨d2,e2⟩:=HBG.out.cell 2 (by show 2 < 8;decide)
       obtain ⟨d3,e3⟩:=HBG.out.cell 3 (by show 3 < 8;decide)
       obtain ⟨d4,e4⟩:=HBG.out.cell 4 (by show 4 < 8;decide)
       obtain ⟨d5,e5⟩:=HBG.out.cell 5 (by show 5 < 8;decide)
       obtain ⟨d6,e6⟩:=HBG.out.cell 6 (by show 6 < 8;decide)
       obtain ⟨d7,e7⟩:=HBG.out.cell 7 (by show 7 < 8;decide)
       simp only [List.getElem_cons_zero,List.getElem_cons_succ] at c0 c1 c2 c3 c4 c5 c6 c7 d0 d1 d2 d3 d4 d5 d6 d7
       have HFill:=hid (fill8 HBG.out HBW.out (Nat.le_of_eq HG.out) HBW.out.size x0 x1 x2 x3 x4 x5 x6 x7)
       go_wp2_with fail
       generalize ((((((((w3.setCell ⟨G,0,none⟩ (.int .u16 (x0:Int))).setCell ⟨G,1,none⟩ (.int .u16 (x1:Int))).setCell ⟨G,2,none⟩ (.int .u16 (x2:Int))).setCell ⟨G,3,none⟩ (.int .u16 (x3:Int))).setCell ⟨G,4,none⟩ (.int .u16 (x4:Int))).setCell ⟨G,5,none⟩ (.int .u16 (x5:Int))).setCell ⟨G,6,none⟩ (.int .u16 (x6:Int))).setCell ⟨G,7,none⟩ (.int .u16 (x7:Int)))=W8 at *
       have g0:=(HFill.out.1.cell 0 (by show 0 < 8;decide)).1
       have g1:=(HFill.out.1.cell 1 (by show 1 < 8;decide)).1
       have g2:=(HFill.out.1.cell 2 (by show 2 < 8;decide)).1
       have g3:=(HFill.out.1.cell 3 (by show 3 < 8;decide)).1
       have g4:=(HFill.out.1.cell 4 (by show 4 < 8;decide)).1
       have g5:=(HFill.out.1.cell 5 (by show 5 < 8;decide)).1
       have g6:=(HFill.out.1.cell 6 (by show 6 < 8;decide)).1
       have g7:=(HFill.out.1.cell 7 (by show 7 < 8;decide)).1
       simp only [List.getElem_cons_zero,List.getElem_cons_succ] at g0 g1 g2 g3 g4 g5 g6 g7
       have HBL8:=hid HFill.out.2
       clear c0 c1 c2 c3 c4 c5 c6 c7 d0 d1 d2 d3 d4 d5 d6 d7 e0 e1 e2 e3 e4 e5 e6 e7 HFill
       refine bodyPost_ret (by simp [results,Tryz.results23,go_sem,g0,g1,g2,g3,g4,g5,g6,g7];try rfl) rfl ?_
       exact P6Post.mk HX.out HBL8.out
   ·have HPa:=hid (pieces_callsIp false (s.extract 0 c))
    have HPb:=hid (pieces_callsIp true (s.extract (c+2) s.size))
    have hea:(s.extract 0 c).data.toList=s.data.toList.take c:=by
     rw [cut_mid s 0 c (by omega)]
     rw [str_data,List.drop_zero,Nat.sub_zero]
    obtain ⟨heb,heb2⟩:=drop_data s (c+2) hc2
    have hsa:(s.extract 0 c).size=c:=by rw [cut_mid s 0 c (by omega),str_size,List.drop_zero,Nat.sub_zero,List.length_take,HLN.out];omega
    rw [hea] at HPa
    rw [heb] at HPb
    have HSA:Hid ((s.extract 0 c).size≤100000):=by have:=HS.out;show _≤_;rw [hsa];omega
    have HSB:Hid ((s.extract (c+2) s.size).size≤100000):=by have:=HS.out;show _≤_;rw [heb2];omega
    have HP:=hid (parse6_two HL.out hcut)
    have c0':(0:Int)≤(c:Int):=by omega
    have c1':(c:Int)+2≤(s.size:Int):=by omega
    have hroad:((c:Int)+1+1 < (s.size:Int))∨¬((c:Int)+1+1 < (s.size:Int)):=Decidable.em _
    have push:(((c+1:Nat):Int))=(c:Int)+1:=by omega
    rw [push]
    clear hea heb heb2 hsa hc2 hcut push
    have HLA:Hid ((s.data.toList.take c).length≤4000):=by have:=HL.out;show _≤_;rw [List.length_take];omega
    have HLB:Hid ((s.data.toList.drop (c+2)).length≤4000):=by have:=HL.out;show _≤_;rw [List.length_drop];omega
    generalize s.data.toList.take c=la at *
    generalize s.data.toList.drop (c+2)=lb at *
    rcases hroad with k1 | k1
    all_goals
     go_wp2_with fail
     refine (HPa.out _ HSA.out).mono ?_
     rintro e w3 ⟨hresa,hb3⟩
     have HZ3:=hid ((HZ.out.1.below hb3))
     have HZ4:=hid ((HZ.out.2.below hb3))
     have HB3:=hid (HB0.out.trans (hb3.mono HB0.out.size))
     have HO2:=hid HZ.out.2.lt
     have HS3:=hid hb3.size
     clear hb3
     rcases hresa with ⟨hna,rfl⟩ | ⟨a,va,hsa,rfl,hra⟩
     ·have HX:Hid (parse6R s.data.toList=(z8,4)):=by show _=_;rw [HP.out,hna];rfl
      clear hna
      go_wp2_with fail
      refine (HPb.out _ HSB.out).mono ?_
      rintro e w4 ⟨hresb,hb4⟩
      have HBG:=hid (HZ3.out.below hb4)
      have HBO:=hid (HZ4.out.below hb4)
      have HBW:=hid (HB3.out.trans (hb4.mono HB3.out.size))
      clear hb4
      rcases hresb with ⟨hnb,rfl⟩ | ⟨b,vb,hsb,rfl,hrb⟩
      ·clear hnb
       have HXL:Hid (z8.length=8):=rfl
       generalize hz8:z8=xs at HX HXL HBO
       clear hz8
       obtain ⟨x0,x1,x2,x3,x4,x5,x6,x7,rfl⟩:=eight HXL.out
       obtain ⟨y0,y1,y2,y3,y4,y5,y6,y7,hys⟩:=eight (xs:=z8) rfl
       rw [hys] at HBG
       clear hys
       have c0:=(HBO.out.cell 0 (by show 0 < 8;decide)).1
       have c1:=(HBO.out.cell 1 (by show 1 < 8;decide)).1
       have c2:=(HBO.out.cell 2 (by show 2 < 8;decide)).1
       have c3:=(HBO.out.cell 3 (by show 3 < 8;decide)).1
       have c4:=(HBO.out.cell 4 (by show 4 < 8;decide)).1
       have c5:=(HBO.out.cell 5 (by show 5 < 8;decide)).1
       have c6:=(HBO.out.cell 6 (by show 6 < 8;decide)).1
       have c7:=(HBO.out.cell 7 (by show 7 < 8;decide)).1
       obtain ⟨d0,e0⟩:=HBG.out.cell 0 (by show 0 < 8;decide)
       obtain ⟨d1,e1⟩:=HBG.out.cell 1 (by show 1 < 8;decide)
       obtain ⟨d2,e2⟩:=HBG.out.cell 2 (by show 2 < 8;decide)
       obtain ⟨d3,e3⟩:=HBG.out.cell 3 (by show 3 < 8;decide)
       obtain ⟨d4,e4⟩:=HBG.out.cell 4 (by show 4 < 8;decide)
       obtain ⟨d5,e5⟩:=HBG.out.cell 5 (by show 5 < 8;decide)
       obtain ⟨d6,e6⟩:=HBG.out.cell 6 (by show 6 < 8;decide)
       obtain ⟨d7,e7⟩:=HBG.out.cell 7 (by show 7 < 8;decide)
       simp only [List.getElem_cons_zero,List.getElem_cons_succ] at c0 c1 c2 c3 c4 c5 c6 c7 d0 d1 d2 d3 d4 d5 d6 d7
       have HFill:=hid (fill8 HBG.out HBW.out (Nat.le_of_eq HG.out) HBW.out.size x0 x1 x2 x3 x4 x5 x6 x7)
       go_wp2_with fail
       generalize ((((((((w4.setCell ⟨G,0,none⟩ (.int .u16 (x0:Int))).setCell ⟨G,1,none⟩ (.int .u16 (x1:Int))).setCell ⟨G,2,none⟩ (.int .u16 (x2:Int))).setCell ⟨G,3,none⟩ (.int .u16 (x3:Int))).setCell ⟨G,4,none⟩ (.int .u16 (x4:Int))).setCell ⟨G,5,none⟩ (.int .u16 (x5:Int))).setCell ⟨G,6,none⟩ (.int .u16 (x6:Int))).setCell ⟨G,7,none⟩ (.int .u16 (x7:Int)))=W8 at *
       have g0:=(HFill.out.1.cell 0 (by show 0 < 8;decide)).1
       have g1:=(HFill.out.1.cell 1 (by show 1 < 8;decide)).1
       have g2:=(HFill.out.1.cell 2 (by show 2 < 8;decide)).1
       have g3:=(HFill.out.1.cell 3 (by show 3 < 8;decide)).1
       have g4:=(HFill.out.1.cell 4 (by show 4 < 8;decide)).1
       have g5:=(HFill.out.1.cell 5 (by show 5 < 8;decide)).1
       have g6:=(HFill.out.1.cell 6 (by show 6 < 8;decide)).1
       have g7:=(HFill.out.1.cell 7 (by show 7 < 8;decide)).1
       simp only [List.getElem_cons_zero,List.getElem_cons_succ] at g0 g1 g2 g3 g4 g5 g6 g7
       have HBL8:=hid HFill.out.2
       clear c0 c1 c2 c3 c4 c5 c6 c7 d0 d1 d2 d3 d4 d5 d6 d7 e0 e1 e2 e3 e4 e5 e6 e7 HFill
       refine bodyPost_ret (by simp [results,Tryz.results23,go_sem,g0,g1,g2,g3,g4,g5,g6,g7];try rfl) rfl ?_
       exact P6Post.mk HX.out HBL8.out
      ·clear hsb hrb
       have HXL:Hid (z8.length=8):=rfl
       generalize hz8:z8=xs at HX HXL HBO
       clear hz8
       obtain ⟨x0,x1,x2,x3,x4,x5,x6,x7,rfl⟩:=eight HXL.out
       obtain ⟨y0,y1,y2,y3,y4,y5,y6,y7,hys⟩:=eight (xs:=z8) rfl
       rw [hys] at HBG
       clear hys
       have c0:=(HBO.out.cell 0 (by show 0 < 8;decide)).1
       have c1:=(HBO.out.cell 1 (by show 1 < 8;decide)).1
       have c2:=(HBO.out.cell 2 (by show 2 < 8;decide)).1
       have c3:=(HBO.out.cell 3 (by show 3 < 8;decide)).1
       have c4:=(HBO.out.cell 4 (by show 4 < 8;decide)).1
       have c5:=(HBO.out.cell 5 (by show 5 < 8;decide)).1
       have c6:=(HBO.out.cell 6 (by show 6 < 8;decide)).1
       have c7:=(HBO.out.cell 7 (by show 7 < 8;decide)).1
       obtain ⟨d0,e0⟩:=HBG.out.cell 0 (by show 0 < 8;decide)
       obtain ⟨d1,e1⟩:=HBG.out.cell 1 (by show 1 < 8;decide)
       obtain ⟨d2,e2⟩:=HBG.out.cell 2 (by show 2 < 8;decide)
       obtain ⟨d3,e3⟩:=HBG.out.cell 3 (by show 3 < 8;decide)
       obtain ⟨d4,e4⟩:=HBG.out.cell 4 (by show 4 < 8;decide)
       obtain ⟨d5,e5⟩:=HBG.out.cell 5 (by show 5 < 8;decide)
       obtain ⟨d6,e6⟩:=HBG.out.cell 6 (by show 6 < 8;decide)
       obtain ⟨d7,e7⟩:=HBG.out.cell 7 (by show 7 < 8;decide)
       simp only [List.getElem_cons_zero,List.getElem_cons_succ] at c0 c1 c2 c3 c4 c5 c6 c7 d0 d1 d2 d3 d4 d5 d6 d7
       have HFill:=hid (fill8 HBG.out HBW.out (Nat.le_of_eq HG.out) HBW.out.size x0 x1 x2 x3 x4 x5 x6 x7)
       go_wp2_with fail
       generalize ((((((((w4.setCell ⟨G,0,none⟩ (.int .u16 (x0:Int))).setCell ⟨G,1,none⟩ (.int .u16 (x1:Int))).setCell ⟨G,2,none⟩ (.int .u16 (x2:Int))).setCell ⟨G,3,none⟩ (.int .u16 (x3:Int))).setCell ⟨G,4,none⟩ (.int .u16 (x4:Int))).setCell ⟨G,5,none⟩ (.int .u16 (x5:Int))).setCell ⟨G,6,none⟩ (.int .u16 (x6:Int))).setCell ⟨G,7,none⟩ (.int .u16 (x7:Int)))=W8 at *
       have g0:=(HFill.out.1.cell 0 (by show 0 < 8;decide)).1
       have g1:=(HFill.out.1.cell 1 (by show 1 < 8;decide)).1
       have g2:=(HFill.out.1.cell 2 (by show 2 < 8;decide)).1
       have g3:=(HFill.out.1.cell 3 (by show 3 < 8;decide)).1
       have g4:=(HFill.out.1.cell 4 (by show 4 < 8;decide)).1
       have g5:=(HFill.out.1.cell 5 (by show 5 < 8;decide)).1
       have g6:=(HFill.out.1.cell 6 (by show 6 < 8;decide)).1
       have g7:=(HFill.out.1.cell 7 (by show 7 < 8;decide)).1
       simp only [List.getElem_cons_zero,List.getElem_cons_succ] at g0 g1 g2 g3 g4 g5 g6 g7
       have HBL8:=hid HFill.out.2
       clear c0 c1 c2 c3 c4 c5 c6 c7 d0 d1 d2 d3 d4 d5 d6 d7 e0 e1 e2 e3 e4 e5 e6 e7 HFill
       refine bodyPost_ret (by simp [results,Tryz.results23,go_sem,g0,g1,g2,g3,g4,g5,g6,g7];try rfl) rfl ?_
       exact P6Post.mk HX.out HBL8.out
     ·have HNA:=hid (pieces_lt hsa)
      have hrow:=hra.row
      obtain ⟨pa,ca,hva,pa1,pa2,-⟩:=hrow
      rw [ints_len] at hva pa1
      unfold maxLen at pa2
      subst hva
      have HRA0:=hid hra
      clear hra
      go_wp2_with fail
      refine (HPb.out _ HSB.out).mono ?_
      rintro e w4 ⟨hresb,hb4⟩
      have HBG:=hid (HZ3.out.below hb4)
      have HBO:=hid (HZ4.out.below hb4)
      have HBW:=hid (HB3.out.trans (hb4.mono HB3.out.size))
      have HRA:=hid (HRA0.out.below hb4)
      clear hb4
      rcases hresb with ⟨hnb,rfl⟩ | ⟨b,vb,hsb,rfl,hrb⟩
      ·have HX:Hid (parse6R s.data.toList=(z8,4)):=by show _=_;rw [HP.out,hsa,hnb];rfl
       clear hnb hsa
       have HXL:Hid (z8.length=8):=rfl
       generalize hz8:z8=xs at HX HXL HBO
       clear hz8
       obtain ⟨x0,x1,x2,x3,x4,x5,x6,x7,rfl⟩:=eight HXL.out
       obtain ⟨y0,y1,y2,y3,y4,y5,y6,y7,hys⟩:=eight (xs:=z8) rfl
       rw [hys] at HBG
       clear hys
       have c0:=(HBO.out.cell 0 (by show 0 < 8;decide)).1
       have c1:=(HBO.out.cell 1 (by show 1 < 8;decide)).1
       have c2:=(HBO.out.cell 2 (by show 2 < 8;decide)).1
       have c3:=(HBO.out.cell 3 (by show 3 < 8;decide)).1
       have c4:=(HBO.out.cell 4 (by show 4 < 8;decide)).1
       have c5:=(HBO.out.cell 5 (by show 5 < 8;decide)).1
       have c6:=(HBO.out.cell 6 (by show 6 < 8;decide)).1
       have c7:=(HBO.out.cell 7 (by show 7 < 8;decide)).1
       obtain ⟨d0,e0⟩:=HBG.out.cell 0 (by show 0 < 8;decide)
       obtain ⟨d1,e1⟩:=HBG.out.cell 1 (by show 1 < 8;decide)
       obtain ⟨d2,e2⟩:=HBG.out.cell 2 (by show 2 < 8;decide)
       obtain ⟨d3,e3⟩:=HBG.out.cell 3 (by show 3 < 8;decide)
       obtain ⟨d4,e4⟩:=HBG.out.cell 4 (by show 4 < 8;decide)
       obtain ⟨d5,e5⟩:=HBG.out.cell 5 (by show 5 < 8;decide)
       obtain ⟨d6,e6⟩:=HBG.out.cell 6 (by show 6 < 8;decide)
       obtain ⟨d7,e7⟩:=HBG.out.cell 7 (by show 7 < 8;decide)
       simp only [List.getElem_cons_zero,List.getElem_cons_succ] at c0 c1 c2 c3 c4 c5 c6 c7 d0 d1 d2 d3 d4 d5 d6 d7
       have HFill:=hid (fill8 HBG.out HBW.out (Nat.le_of_eq HG.out) HBW.out.size x0 x1 x2 x3 x4 x5 x6 x7)
       go_wp2_with fail
       generalize ((((((((w4.setCell ⟨G,0,none⟩ (.int .u16 (x0:Int))).setCell ⟨G,1,none⟩ (.int .u16 (x1:Int))).setCell ⟨G,2,none⟩ (.int .u16 (x2:Int))).setCell ⟨G,3,none⟩ (.int .u16 (x3:Int))).setCell ⟨G,4,none⟩ (.int .u16 (x4:Int))).setCell ⟨G,5,none⟩ (.int .u16 (x5:Int))).setCell ⟨G,6,none⟩ (.int .u16 (x6:Int))).setCell ⟨G,7,none⟩ (.int .u16 (x7:Int)))=W8 at *
       have g0:=(HFill.out.1.cell 0 (by show 0 < 8;decide)).1
       have g1:=(HFill.out.1.cell 1 (by show 1 < 8;decide)).1
       have g2:=(HFill.out.1.cell 2 (by show 2 < 8;decide)).1
       have g3:=(HFill.out.1.cell 3 (by show 3 < 8;decide)).1
       have g4:=(HFill.out.1.cell 4 (by show 4 < 8;decide)).1
       have g5:=(HFill.out.1.cell 5 (by show 5 < 8;decide)).1
       have g6:=(HFill.out.1.cell 6 (by show 6 < 8;decide)).1
       have g7:=(HFill.out.1.cell 7 (by show 7 < 8;decide)).1
       simp only [List.getElem_cons_zero,List.getElem_cons_succ] at g0 g1 g2 g3 g4 g5 g6 g7
       have HBL8:=hid HFill.out.2
       clear c0 c1 c2 c3 c4 c5 c6 c7 d0 d1 d2 d3 d4 d5 d6 d7 e0 e1 e2 e3 e4 e5 e6 e7 HFill
       refine bodyPost_ret (by simp [results,Tryz.results23,go_sem,g0,g1,g2,g3,g4,g5,g6,g7];try rfl) rfl ?_
       exact P6Post.mk HX.out HBL8.out
      ·have HNB:=hid (pieces_lt hsb)
       have hrow:=hrb.row
       obtain ⟨pb,cb,hvb,pb1,pb2,-⟩:=hrow
       rw [ints_len] at hvb pb1
       unfold maxLen at pb2
       subst hvb
       have HRB:=hid (hrb.mono HS3.out)
       have HP2:Hid (parse6R s.data.toList=if a.length+b.length≤7 then (a++List.replicate (8-(a.length+b.length)) 0++b,0) else (z8,4)):=by show _=_;rw [HP.out,hsa,hsb];rfl
       have a9:(a.length:Int)≤5000:=by have:=pieces_len hsa;have:=HLA.out;omega
       have b9:(b.length:Int)≤5000:=by have:=pieces_len hsb;have:=HLB.out;omega
       clear hsa hsb hrb
       by_cases h7:a.length+b.length≤7
       ·have HX:=hid HP2.out
        rw [if_pos h7] at HX
        have H7:=hid h7
        have g7':¬(7:Int) < (a.length:Int)+(b.length:Int):=by omega
        have a7:(a.length:Int)≤7:=by omega
        have HB8:Hid (Blk w4 O (a.take 0++List.replicate (8-0) 0)):=HBO.out
        clear HBO HP2
        go_wp2_with fail
        go_loopw [14] (fun vi wr=>∃j:Nat,j≤a.length∧vi=.int .i64 (j:Int)∧Blk wr O (a.take j++List.replicate (8-j) 0)∧Blk wr G z8∧IOwn wr w2.heap.size (.slice pa a.length ca) (intsIp a)∧IOwn wr w2.heap.size (.slice pb b.length cb) (intsIp b)∧Below w.heap.size w wr) (fun vi _=>a.length-(intOf vi).toNat)
        case atStart=>exact ⟨0,Nat.zero_le _,rfl,HB8.out,HBG.out,HRA.out,HRB.out,HBW.out⟩
        case round =>
         obtain ⟨j,hj,rfl,hbo,hbg,hroa,hrob,hbw⟩:=hrel
         replace HBG:=hid hbg
         replace HBW:=hid hbw
         replace HRA:=hid hroa
         replace HRB:=hid hrob
         have j0:(0:Int)≤(j:Int):=by omega
         clear hbg hbw hroa hrob
         by_cases hlt:j < a.length
         ·have h8:j < 8:=by omega
          obtain ⟨rb,roff,hra,hrl,hrc⟩:=row_at HRA.out.row (k:=j) (by rw [ints_len];exact hlt)
          have hxe:(intsIp a)[j]'(by rw [ints_len];exact hlt)=((a[j]'hlt:Nat):Int):=by simp [intsIp]
          rw [hxe] at hrc
          have hx16:=HNA.out _ (List.getElem_mem hlt)
          obtain ⟨oc,of⟩:=hbo.cell j (by rw [fill_len (by omega) (by omega)];exact h8)
          have HSet:=hid (hbo.set j (a[j]'hlt))
          rw [fill_step hlt h8] at HSet
          have HGs:=hid (HBG.out.other ⟨O,j,none⟩ (.int .u16 ((a[j]'hlt:Nat):Int)) HGO.out)
          have HRs:Hid (IOwn (wr.setCell ⟨O,j,none⟩ (.int .u16 ((a[j]'hlt:Nat):Int))) w2.heap.size (.slice pa a.length ca) (intsIp a)):=World.ownsRow.kept HRA.out (grown_set _ _ _ _) (.inr (fun e=>by have:=(World.ownsRow.lt HRA.out O e).1;have:=HO2.out;omega))
          have HRt:Hid (IOwn (wr.setCell ⟨O,j,none⟩ (.int .u16 ((a[j]'hlt:Nat):Int))) w2.heap.size (.slice pb b.length cb) (intsIp b)):=World.ownsRow.kept HRB.out (grown_set _ _ _ _) (.inr (fun e=>by have:=(World.ownsRow.lt HRB.out O e).1;have:=HO2.out;omega))
          have HBs:=hid (below_set HBW.out (Nat.le_trans (Nat.le_of_eq HG.out) HGO2.out) HBW.out.size j (.int .u16 ((a[j]'hlt:Nat):Int)))
          generalize a[j]'hlt=x at *
          have wx:=wrap16 x hx16
          have x0':(0:Int)≤(x:Int):=by omega
          have x9':(x:Int) < 65536:=by omega
          have j1:(j:Int) < 8:=by omega
          have j2:(j:Int) < (a.length:Int):=by omega
          have HJ:=hid hlt
          obtain ⟨o1,ho1⟩:∃o1,(a.take j++List.replicate (8-j) 0)[j]'(by rw [fill_len (by omega) (by omega)];exact h8)=o1:=⟨_,rfl⟩
          rw [ho1] at oc
          subst hra
          clear hbo hxe hlt h8 hj ho1 hx16
          go_wp2_with fail
          go_roundw
          case rel=>exact ⟨j+1,HJ.out,by go_num,HSet.out,HGs.out,HRs.out,HRt.out,HBs.out⟩
          case measure=>have:=HJ.out;simp [intOf];omega
         ·have j1:¬(j:Int) < (a.length:Int):=by omega
          have hja:j=a.length:=by omega
          have HM0:Hid (Blk wr O (midR a b 0)):=by
           show Blk wr O (midR a b 0)
           rw [mid_start H7.out,← hja]
           exact hbo
          clear hbo hlt hj hja HB8
          go_wp2_with fail
          go_loopw [15] (fun vi wr=>∃j:Nat,j≤b.length∧vi=.int .i64 (j:Int)∧Blk wr O (midR a b j)∧Blk wr G z8∧IOwn wr w2.heap.size (.slice pb b.length cb) (intsIp b)∧Below w.heap.size w wr) (fun vi _=>b.length-(intOf vi).toNat)
          case atStart=>exact ⟨0,Nat.zero_le _,rfl,HM0.out,HBG.out,HRB.out,HBW.out⟩
          case round =>
           obtain ⟨i,hi,rfl,hbo,hbg,hrob,hbw⟩:=hrel
           replace HBG:=hid hbg
           replace HBW:=hid hbw
           replace HRB:=hid hrob
           have i0:(0:Int)≤(i:Int):=by omega
           clear hbg hbw hrob
           by_cases hlt:i < b.length
           ·obtain ⟨rb,roff,hra,hrl,hrc⟩:=row_at HRB.out.row (k:=i) (by rw [ints_len];exact hlt)
            have hxe:(intsIp b)[i]'(by rw [ints_len];exact hlt)=((b[i]'hlt:Nat):Int):=by simp [intsIp]
            rw [hxe] at hrc
            have hx16:=HNB.out _ (List.getElem_mem hlt)
            have HStep:=hid (mid_step H7.out hlt)
            have h7':=H7.out
            obtain ⟨m,hm⟩:∃m,8-b.length+i=m:=⟨_,rfl⟩
            rw [hm] at HStep
            have hm8:m < (midR a b i).length:=by rw [mid_len H7.out hi];omega
            obtain ⟨oc,of⟩:=hbo.cell m hm8
            have HSet:=hid (hbo.set m (b[i]'hlt))
            rw [HStep.out] at HSet
            have HGs:=hid (HBG.out.other ⟨O,m,none⟩ (.int .u16 ((b[i]'hlt:Nat):Int)) HGO.out)
            have HRt:Hid (IOwn (wr.setCell ⟨O,m,none⟩ (.int .u16 ((b[i]'hlt:Nat):Int))) w2.heap.size (.slice pb b.length cb) (intsIp b)):=World.ownsRow.kept HRB.out (grown_set _ _ _ _) (.inr (fun e=>by have:=(World.ownsRow.lt HRB.out O e).1;have:=HO2.out;omega))
            have HBs:=hid (below_set HBW.out (Nat.le_trans (Nat.le_of_eq HG.out) HGO2.out) HBW.out.size m (.int .u16 ((b[i]'hlt:Nat):Int)))
            generalize b[i]'hlt=x at *
            have wx:=wrap16 x hx16
            have x0':(0:Int)≤(x:Int):=by omega
            have x9':(x:Int) < 65536:=by omega
            have em:(8:Int)-(b.length:Int)+(i:Int)=(m:Int):=by omega
            have m8:(m:Int) < 8:=by omega
            have m0:(0:Int)≤(m:Int):=by omega
            have i2:(i:Int) < (b.length:Int):=by omega
            have b7:(b.length:Int)≤7:=by omega
            have HJ:=hid hlt
            obtain ⟨o1,ho1⟩:∃o1,(midR a b i)[m]'hm8=o1:=⟨_,rfl⟩
            rw [ho1] at oc
            subst hra
            clear hbo hxe hlt hi ho1 hx16 hm HStep h7' hm8
            go_wp2_with fail
            go_roundw
            case rel=>exact ⟨i+1,HJ.out,by go_num,HSet.out,HGs.out,HRt.out,HBs.out⟩
            case measure=>have:=HJ.out;simp [intOf];omega
           ·have i1:¬(i:Int) < (b.length:Int):=by omega
            have hib:i=b.length:=by omega
            have HBO:Hid (Blk wr O (a++List.replicate (8-(a.length+b.length)) 0++b)):=by
             show Blk wr O _
             have:=hbo
             rw [hib,mid_end] at this
             exact this
            have HXL:Hid ((a++List.replicate (8-(a.length+b.length)) 0++b).length=8):=by
             show _=_
             have:=H7.out
             simp
             omega
            clear hbo hlt hi hib HM0
            generalize a++List.replicate (8-(a.length+b.length)) 0++b=xs at HX HXL HBO
            obtain ⟨x0,x1,x2,x3,x4,x5,x6,x7,rfl⟩:=eight HXL.out
            obtain ⟨y0,y1,y2,y3,y4,y5,y6,y7,hys⟩:=eight (xs:=z8) rfl
            rw [hys] at HBG
            clear hys
            have c0:=(HBO.out.cell 0 (by show 0 < 8;decide)).1
            have c1:=(HBO.out.cell 1 (by show 1 < 8;decide)).1
            have c2:=(HBO.out.cell 2 (by show 2 < 8;decide)).1
            have c3:=(HBO.out.cell 3 (by show 3 < 8;decide)).1
            have c4:=(HBO.out.cell 4 (by show 4 < 8;decide)).1
            have c5:=(HBO.out.cell 5 (by show 5 < 8;decide)).1
            have c6:=(HBO.out.cell 6 (by show 6 < 8;decide)).1
            have c7:=(HBO.out.cell 7 (by show 7 < 8;decide)).1
            obtain ⟨d0,e0⟩:=HBG.out.cell 0 (by show 0 < 8;decide)
            obtain ⟨d1,e1⟩:=HBG.out.cell 1 (by show 1 < 8;decide)
            obtain ⟨d2,e2⟩:=HBG.out.cell 2 (by show 2 < 8;decide)
            obtain ⟨d3,e3⟩:=HBG.out.cell 3 (by show 3 < 8;decide)
            obtain ⟨d4,e4⟩:=HBG.out.cell 4 (by show 4 < 8;decide)
            obtain ⟨d5,e5⟩:=HBG.out.cell 5 (by show 5 < 8;decide)
            obtain ⟨d6,e6⟩:=HBG.out.cell 6 (by show 6 < 8;decide)
            obtain ⟨d7,e7⟩:=HBG.out.cell 7 (by show 7 < 8;decide)
            simp only [List.getElem_cons_zero,List.getElem_cons_succ] at c0 c1 c2 c3 c4 c5 c6 c7 d0 d1 d2 d3 d4 d5 d6 d7
            have HFill:=hid (fill8 HBG.out HBW.out (Nat.le_of_eq HG.out) HBW.out.size x0 x1 x2 x3 x4 x5 x6 x7)
            go_wp2_with fail
            generalize ((((((((wr.setCell ⟨G,0,none⟩ (.int .u16 (x0:Int))).setCell ⟨G,1,none⟩ (.int .u16 (x1:Int))).setCell ⟨G,2,none⟩ (.int .u16 (x2:Int))).setCell ⟨G,3,none⟩ (.int .u16 (x3:Int))).setCell ⟨G,4,none⟩ (.int .u16 (x4:Int))).setCell ⟨G,5,none⟩ (.int .u16 (x5:Int))).setCell ⟨G,6,none⟩ (.int .u16 (x6:Int))).setCell ⟨G,7,none⟩ (.int .u16 (x7:Int)))=W8 at *
            have g0:=(HFill.out.1.cell 0 (by show 0 < 8;decide)).1
            have g1:=(HFill.out.1.cell 1 (by show 1 < 8;decide)).1
            have g2:=(HFill.out.1.cell 2 (by show 2 < 8;decide)).1
            have g3:=(HFill.out.1.cell 3 (by show 3 < 8;decide)).1
            have g4:=(HFill.out.1.cell 4 (by show 4 < 8;decide)).1
            have g5:=(HFill.out.1.cell 5 (by show 5 < 8;decide)).1
            have g6:=(HFill.out.1.cell 6 (by show 6 < 8;decide)).1
            have g7:=(HFill.out.1.cell 7 (by show 7 < 8;decide)).1
            simp only [List.getElem_cons_zero,List.getElem_cons_succ] at g0 g1 g2 g3 g4 g5 g6 g7
            have HBL8:=hid HFill.out.2
            clear c0 c1 c2 c3 c4 c5 c6 c7 d0 d1 d2 d3 d4 d5 d6 d7 e0 e1 e2 e3 e4 e5 e6 e7 HFill
            refine bodyPost_ret (by simp [results,Tryz.results23,go_sem,g0,g1,g2,g3,g4,g5,g6,g7];try rfl) rfl ?_
            exact P6Post.mk HX.out HBL8.out
       ·have HX:=hid HP2.out
        rw [if_neg h7] at HX
        have g7':(7:Int) < (a.length:Int)+(b.length:Int):=by omega
        clear HP2 h7
        have HXL:Hid (z8.length=8):=rfl
        generalize hz8:z8=xs at HX HXL HBO
        clear hz8
        obtain ⟨x0,x1,x2,x3,x4,x5,x6,x7,rfl⟩:=eight HXL.out
        obtain ⟨y0,y1,y2,y3,y4,y5,y6,y7,hys⟩:=eight (xs:=z8) rfl
        rw [hys] at HBG
        clear hys
        have c0:=(HBO.out.cell 0 (by show 0 < 8;decide)).1
        have c1:=(HBO.out.cell 1 (by show 1 < 8;decide)).1
        have c2:=(HBO.out.cell 2 (by show 2 < 8;decide)).1
        have c3:=(HBO.out.cell 3 (by show 3 < 8;decide)).1
        have c4:=(HBO.out.cell 4 (by show 4 < 8;decide)).1
        have c5:=(HBO.out.cell 5 (by show 5 < 8;decide)).1
        have c6:=(HBO.out.cell 6 (by show 6 < 8;decide)).1
        have c7:=(HBO.out.cell 7 (by show 7 < 8;decide)).1
        obtain ⟨d0,e0⟩:=HBG.out.cell 0 (by show 0 < 8;decide)
        obtain ⟨d1,e1⟩:=HBG.out.cell 1 (by show 1 < 8;decide)
        obtain ⟨d2,e2⟩:=HBG.out.cell 2 (by show 2 < 8;decide)
        obtain ⟨d3,e3⟩:=HBG.out.cell 3 (by show 3 < 8;decide)
        obtain ⟨d4,e4⟩:=HBG.out.cell 4 (by show 4 < 8;decide)
        obtain ⟨d5,e5⟩:=HBG.out.cell 5 (by show 5 < 8;decide)
        obtain ⟨d6,e6⟩:=HBG.out.cell 6 (by show 6 < 8;decide)
        obtain ⟨d7,e7⟩:=HBG.out.cell 7 (by show 7 < 8;decide)
        simp only [List.getElem_cons_zero,List.getElem_cons_succ] at c0 c1 c2 c3 c4 c5 c6 c7 d0 d1 d2 d3 d4 d5 d6 d7
        have HFill:=hid (fill8 HBG.out HBW.out (Nat.le_of_eq HG.out) HBW.out.size x0 x1 x2 x3 x4 x5 x6 x7)
        go_wp2_with fail
        generalize ((((((((w4.setCell ⟨G,0,none⟩ (.int .u16 (x0:Int))).setCell ⟨G,1,none⟩ (.int .u16 (x1:Int))).setCell ⟨G,2,none⟩ (.int .u16 (x2:Int))).setCell ⟨G,3,none⟩ (.int .u16 (x3:Int))).setCell ⟨G,4,none⟩ (.int .u16 (x4:Int))).setCell ⟨G,5,none⟩ (.int .u16 (x5:Int))).setCell ⟨G,6,none⟩ (.int .u16 (x6:Int))).setCell ⟨G,7,none⟩ (.int .u16 (x7:Int)))=W8 at *
        have g0:=(HFill.out.1.cell 0 (by show 0 < 8;decide)).1
        have g1:=(HFill.out.1.cell 1 (by show 1 < 8;decide)).1
        have g2:=(HFill.out.1.cell 2 (by show 2 < 8;decide)).1
        have g3:=(HFill.out.1.cell 3 (by show 3 < 8;decide)).1
        have g4:=(HFill.out.1.cell 4 (by show 4 < 8;decide)).1
        have g5:=(HFill.out.1.cell 5 (by show 5 < 8;decide)).1
        have g6:=(HFill.out.1.cell 6 (by show 6 < 8;decide)).1
        have g7:=(HFill.out.1.cell 7 (by show 7 < 8;decide)).1
        simp only [List.getElem_cons_zero,List.getElem_cons_succ] at g0 g1 g2 g3 g4 g5 g6 g7
        have HBL8:=hid HFill.out.2
        clear c0 c1 c2 c3 c4 c5 c6 c7 d0 d1 d2 d3 d4 d5 d6 d7 e0 e1 e2 e3 e4 e5 e6 e7 HFill
        refine bodyPost_ret (by simp [results,Tryz.results23,go_sem,g0,g1,g2,g3,g4,g5,g6,g7];try rfl) rfl ?_
        exact P6Post.mk HX.out HBL8.out
end Go.Proofs.YtpohekldddbneaaGreatDoor
