import Derived.Test.YtigfgloenjoeoaaGreatDoorLaAY
import Derived.Deep.WholeRow
import Derived.Test.YtigfgloenjoeoaaGreatDoorLaAC
import Derived.Test.YtigfgloenjoeoaaGreatDoorLaAA
import Derived.Deep.RegionWith
import Derived.Deep.DrawnRows
import Derived.Test.YtigfgloenjoeoaaGreatDoorLaAD
import Derived.Deep.RegionHeld3
import Derived.Deep.DeepMust
import Derived.Test.YtigfgloenjoeoaaGreatDoorLaAS
set_option linter.unusedVariables false
set_option linter.unusedSimpArgs false
set_option maxRecDepth 20000
set_option maxHeartbeats 16000000
namespace Go.Proofs.YtigfgloenjoeoaaGreatDoor
open Go.RowKit
def valF (b:Nat) (l:List UInt8) (n:Nat):Nat:=l.foldl (fun n c=>n * b+dgv c) n
theorem valF_ge (b:Nat):∀(l:List UInt8) (n:Nat),n * b^l.length≤valF b l n
 | [],n=>by simp [valF]
 | c::r,n=>by
   have h:=valF_ge b r (n * b+dgv c)
   have h2:n * b * b^r.length≤(n * b+dgv c) * b^r.length:=Nat.mul_le_mul_right _ (Nat.le_add_right _ _)
   rw [List.length_cons,Nat.pow_succ,Nat.mul_comm (b^r.length) b,← Nat.mul_assoc]
   exact Nat.le_trans h2 h
theorem valX_ge {l:List UInt8} (hd:digsR 10 l=true) (hn:l≠[]) (h0:l.head? ≠ some 48) (h3:3 < l.length):1000≤valX 10 l:=by
 match l,hn with
 | c::r,_ =>
   have hc:digB 10 c=true:=by
    unfold digsR at hd
    rw [List.all_cons,Bool.and_eq_true] at hd
    exact hd.1
   have hc0:c≠48:=fun e=>h0 (by rw [e];rfl)
   have hg:1≤dgv c:=by
    unfold digB at hc
    unfold dgv
    cases hx:hexV c.toNat with
    | none=>rw [hx] at hc;cases hc
    | some d =>
      show 1≤d
      rcases Nat.eq_zero_or_pos d with h | h
      ·exfalso
       rw [h] at hx
       apply hc0
       have hz:∀n,n < 256→hexV n=some 0→n=48:=by decide +kernel
       have:=hz c.toNat (byte_lt c) hx
       exact UInt8.toNat.inj this
      ·exact h
   have h:=valF_ge 10 r (dgv c)
   have e:valX 10 (c::r)=valF 10 r (dgv c):=by unfold valX valF;rw [List.foldl_cons,Nat.zero_mul,Nat.zero_add]
   rw [e]
   have hl:3≤r.length:=by simp only [List.length_cons] at h3;omega
   have h4:10^3≤10^r.length:=Nat.pow_le_pow_right (by decide) hl
   have h5:1 * 10^r.length≤dgv c * 10^r.length:=Nat.mul_le_mul_right _ hg
   have h6:(10:Nat)^3=1000:=by decide
   omega
theorem base_dec {q:List UInt8} (hp:¬(1 < q.length∧q.head? = some 48)) (hd:digsR 10 q=true):baseR q=(q,10):=by
 have hh:hexR q=false:=by
  match q with
  | []=>rfl
  | [c]=>rfl
  | a::x::r =>
    show (a==48&&(x==120||x==88))=false
    rw [beq_eq_false_iff_ne.2 (fun e=>hp ⟨by simp,by rw [e];rfl⟩)]
    rfl
 unfold baseR
 rw [hh,if_neg (by decide),if_neg hp]
theorem oct_prog (q:List UInt8):octR q=if q=[]∨(1 < q.length∧q.head? = some 48)∨digsR 10 q=false∨255 < satR 10 q then none else some (satR 10 q):=by
 by_cases h1:q=[]
 ·rw [oct_bad (.inl h1),if_pos (.inl h1)]
 by_cases h2:1 < q.length∧q.head? = some 48
 ·rw [oct_bad (.inr (.inr (.inr h2))),if_pos (.inr (.inl h2))]
 by_cases h3:digsR 10 q=false
 ·rw [oct_bad (.inr (.inr (.inl h3))),if_pos (.inr (.inr (.inl h3)))]
 have hd:digsR 10 q=true:=by cases h:digsR 10 q with | true=>rfl | false=>exact absurd h h3
 have hs:=satR_eq 10 (by decide) q.length q rfl
 by_cases h4:3 < q.length
 ·have hg:1000≤valX 10 q:=valX_ge hd h1 (fun e=>h2 ⟨by omega,e⟩) h4
  rw [oct_bad (.inr (.inl h4)),if_pos (.inr (.inr (.inr (by rw [hs];omega))))]
 ·have hlt:=valX_lt q.length q rfl hd
  have hle:10^q.length≤10^3:=Nat.pow_le_pow_right (by decide) (by omega)
  have h6:(10:Nat)^3=1000:=by decide
  have hn:numR q=some (satR 10 q):=by
   unfold numR
   rw [if_neg h1,base_dec h2 hd]
   show (if digsR 10 q=true then some (valRIp 10 q) else none)=_
   rw [if_pos hd,hs,valR_eq 10 (by decide) _ q rfl,Nat.min_eq_left (by omega),Nat.min_eq_left (by omega)]
  have hb:¬(q=[]∨3 < q.length∨digsR 10 q=false∨(1 < q.length∧q.head? = some 48)):=by
   rintro (h | h | h | h)
   ·exact h1 h
   ·exact h4 h
   ·exact h3 h
   ·exact h2 h
  have hg:(numR q).getD 0=satR 10 q:=by rw [hn];rfl
  by_cases h5:255 < satR 10 q
  ·rw [oct_great hg h5,if_pos (.inr (.inr (.inr h5)))]
  ·rw [oct_good hb hg h5,if_neg]
   rintro (h | h | h | h)
   ·exact h1 h
   ·exact h2 h
   ·exact h3 h
   ·exact h5 h
abbrev idV (v:Value):Value:=v
abbrev Bk9 (w:World) (g:Nat) (vs:List Value):Prop:=Bk idV 153 w g vs
theorem fill9 {B G:Nat} {w w3:World} {y0 y1 y2 y3 y4 y5 y6 y7 y8:Value} (hb:Bk9 w3 G [y0,y1,y2,y3,y4,y5,y6,y7,y8]) (hB:Below B w w3) (hG:B≤G) (hs:B≤w3.heap.size) (x0 x1 x2 x3 x4 x5 x6 x7 x8:Value) :
 Bk9 (((((((((w3.setCell ⟨G,0,none⟩ x0).setCell ⟨G,1,none⟩ x1).setCell ⟨G,2,none⟩ x2).setCell ⟨G,3,none⟩ x3).setCell ⟨G,4,none⟩ x4).setCell ⟨G,5,none⟩ x5).setCell ⟨G,6,none⟩ x6).setCell ⟨G,7,none⟩ x7).setCell ⟨G,8,none⟩ x8) G [x0,x1,x2,x3,x4,x5,x6,x7,x8] ∧
 Below B w (((((((((w3.setCell ⟨G,0,none⟩ x0).setCell ⟨G,1,none⟩ x1).setCell ⟨G,2,none⟩ x2).setCell ⟨G,3,none⟩ x3).setCell ⟨G,4,none⟩ x4).setCell ⟨G,5,none⟩ x5).setCell ⟨G,6,none⟩ x6).setCell ⟨G,7,none⟩ x7).setCell ⟨G,8,none⟩ x8):=by
 refine ⟨((((((((hb.set 0 x0).set 1 x1).set 2 x2).set 3 x3).set 4 x4).set 5 x5).set 6 x6).set 7 x7).set 8 x8,?_⟩
 refine belowSet (belowSet (belowSet (belowSet (belowSet (belowSet (belowSet (belowSet (belowSet hB hG hs 0 _) hG ?_ 1 _) hG ?_ 2 _) hG ?_ 3 _) hG ?_ 4 _) hG ?_ 5 _) hG ?_ 6 _) hG ?_ 7 _) hG ?_ 8 _
 all_goals simpa [World.setCell] using hs
theorem cells9 {w:World} {g:Nat} {y0 y1 y2 y3 y4 y5 y6 y7 y8:Value} (h:Bk9 w g [y0,y1,y2,y3,y4,y5,y6,y7,y8]) :
 (w.cell? ⟨g,0,none⟩=some y0∧w.cell? ⟨g,1,none⟩=some y1∧w.cell? ⟨g,2,none⟩=some y2∧w.cell? ⟨g,3,none⟩=some y3∧w.cell? ⟨g,4,none⟩=some y4∧w.cell? ⟨g,5,none⟩=some y5∧w.cell? ⟨g,6,none⟩=some y6∧w.cell? ⟨g,7,none⟩=some y7∧w.cell? ⟨g,8,none⟩=some y8) ∧
 (w.frozen? ⟨g,0,none⟩=false∧w.frozen? ⟨g,1,none⟩=false∧w.frozen? ⟨g,2,none⟩=false∧w.frozen? ⟨g,3,none⟩=false∧w.frozen? ⟨g,4,none⟩=false∧w.frozen? ⟨g,5,none⟩=false∧w.frozen? ⟨g,6,none⟩=false∧w.frozen? ⟨g,7,none⟩=false∧w.frozen? ⟨g,8,none⟩=false):=by
 have c:=fun i hi=>h.cell i hi
 exact ⟨⟨(c 0 (by simp)).1,(c 1 (by simp)).1,(c 2 (by simp)).1,(c 3 (by simp)).1,(c 4 (by simp)).1,(c 5 (by simp)).1,(c 6 (by simp)).1,(c 7 (by simp)).1,(c 8 (by simp)).1⟩,
  ⟨(c 0 (by simp)).2,(c 1 (by simp)).2,(c 2 (by simp)).2,(c 3 (by simp)).2,(c 4 (by simp)).2,(c 5 (by simp)).2,(c 6 (by simp)).2,(c 7 (by simp)).2,(c 8 (by simp)).2⟩⟩
def zero9:List Value:=[.int .u16 0,.int .u16 0,.int .u16 0,.int .u16 0,.int .u16 0,.int .u16 0,.int .u16 0,.int .u16 0,.int .i64 0]
theorem zero9_world (w:World):Bk9 (w.alloc (.cells #[.int .u16 0,.int .u16 0,.int .u16 0,.int .u16 0,.int .u16 0,.int .u16 0,.int .u16 0,.int .u16 0,.int .i64 0] 153)) w.heap.size zero9:=heap_alloc_new w _
def RowIs (r:Option (List Nat)) (v:Value):Prop:=∃x0 x1 x2 x3 x4 x5 x6 x7 c:Nat,v=.agg #[.int .u16 (x0:Int),.int .u16 (x1:Int),.int .u16 (x2:Int),.int .u16 (x3:Int),.int .u16 (x4:Int),.int .u16 (x5:Int),.int .u16 (x6:Int),.int .u16 (x7:Int),.int .i64 (c:Int)]∧c≤8∧∀ns,r=some ns→c=ns.length∧[x0,x1,x2,x3,x4,x5,x6,x7]=ns++List.replicate (8-ns.length) 0
def RPost (r:Option (List Nat)) (w:World) (e:Ending) (w':World):Prop:=∃v,RowIs r v∧e=.returned (.tuple #[v,.bool r.isSome])∧Below w.heap.size w w'
theorem RPost.no {r:Option (List Nat)} {w w':World} (x0 x1 x2 x3 x4 x5 x6 x7 c:Nat) (hc:c≤8) (h:r=none) (hb:Below w.heap.size w w'):RPost r w (.returned (.tuple #[.agg #[.int .u16 (x0:Int),.int .u16 (x1:Int),.int .u16 (x2:Int),.int .u16 (x3:Int),.int .u16 (x4:Int),.int .u16 (x5:Int),.int .u16 (x6:Int),.int .u16 (x7:Int),.int .i64 (c:Int)],.bool false])) w' :=
 ⟨_,⟨x0,x1,x2,x3,x4,x5,x6,x7,c,rfl,hc,fun ns e=>by rw [h] at e;cases e⟩,by rw [h];rfl,hb⟩
theorem RPost.yes {r:Option (List Nat)} {w w':World} {ns:List Nat} (x0 x1 x2 x3 x4 x5 x6 x7 c:Nat) (h:r=some ns) (hc:c=ns.length) (hc8:c≤8) (hx:[x0,x1,x2,x3,x4,x5,x6,x7]=ns++List.replicate (8-ns.length) 0) (hb:Below w.heap.size w w'):RPost r w (.returned (.tuple #[.agg #[.int .u16 (x0:Int),.int .u16 (x1:Int),.int .u16 (x2:Int),.int .u16 (x3:Int),.int .u16 (x4:Int),.int .u16 (x5:Int),.int .u16 (x6:Int),.int .u16 (x7:Int),.int .i64 (c:Int)],.bool true])) w' :=
 ⟨_,⟨x0,x1,x2,x3,x4,x5,x6,x7,c,rfl,hc8,fun ms e=>by rw [h] at e;cases e;exact ⟨hc,hx⟩⟩,by rw [h];rfl,hb⟩
end Go.Proofs.YtigfgloenjoeoaaGreatDoor
