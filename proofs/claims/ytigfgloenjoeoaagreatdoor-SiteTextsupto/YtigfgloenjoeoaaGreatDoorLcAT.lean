import Derived.Test.YtigfgloenjoeoaaGreatDoorLcAQ
import Derived.Handy
set_option linter.unusedVariables false
set_option linter.unusedSimpArgs false
set_option maxRecDepth 20000
set_option maxHeartbeats 16000000
namespace Go.Proofs.YtigfgloenjoeoaaGreatDoor
open Go.RowKit
def Bk {α:Type} (f:α→Value) (t:TypeId) (w:World) (g:Nat) (xs:List α):Prop:=w.heap[g]? = some (.cells (xs.map f).toArray t)
theorem Bk.lt {α:Type} {f:α→Value} {t:TypeId} {w:World} {g:Nat} {xs:List α} (h:Bk f t w g xs):g < w.heap.size:=by
 rcases Nat.lt_or_ge g w.heap.size with h' | h'
 ·exact h'
 ·unfold Bk at h
  rw [Array.getElem?_eq_none h'] at h
  cases h
theorem Bk.cell {α:Type} {f:α→Value} {t:TypeId} {w:World} {g:Nat} {xs:List α} (h:Bk f t w g xs) (i:Nat) (hi:i < xs.length):w.cell? ⟨g,i,none⟩=some (f xs[i])∧w.frozen? ⟨g,i,none⟩=false:=by
 unfold Bk at h
 constructor
 ·simp [World.cell?,h,hi]
 ·simp [World.frozen?,h]
theorem Bk.below {α:Type} {f:α→Value} {t:TypeId} {w w':World} {g:Nat} {xs:List α} (h:Bk f t w g xs) (hb:Below w.heap.size w w'):Bk f t w' g xs:=by
 have:=hb.block g h.lt
 unfold Bk at h ⊢
 rw [this,h]
theorem Bk.set {α:Type} {f:α→Value} {t:TypeId} {w:World} {g:Nat} {xs:List α} (h:Bk f t w g xs) (i:Nat) (x:α):Bk f t (w.setCell ⟨g,i,none⟩ (f x)) g (xs.set i x):=by
 unfold Bk at h ⊢
 rw [heap_setCell_same w g i _ _ _ h]
 simp [List.map_set]
theorem Bk.other {α:Type} {f:α→Value} {t:TypeId} {w:World} {g:Nat} {xs:List α} (h:Bk f t w g xs) (a:Addr) (v:Value) (hn:g≠a.block):Bk f t (w.setCell a v) g xs:=by
 unfold Bk at h ⊢
 rw [heap_setCell_other w a g v hn,h]
theorem grownSet (w:World) (g i:Nat) (v:Value):w.grownBy (w.setCell ⟨g,i,none⟩ v) (some g) :=
 ⟨rfl,rfl,rfl,by simp [World.setCell],fun k hk hne=>heap_setCell_other w _ k _ (by intro e;exact hne (by rw [e]))⟩
theorem belowSet {B:Nat} {w w':World} (h:Below B w w') {g:Nat} (hg:B≤g) (hs:B≤w'.heap.size) (i:Nat) (v:Value):Below B w (w'.setCell ⟨g,i,none⟩ v) :=
 h.grown (grownSet w' g i v) hs (fun k hk=>by cases hk;exact hg)
theorem setSize (w:World) (a:Addr) (v:Value):(w.setCell a v).heap.size=w.heap.size:=by simp [World.setCell]
def f64 (n:Nat):Value:=.int .u64 (n:Int)
def capN (n:Nat):Nat:=min n 4294967296
theorem sum4_cap:∀(ns:List Nat) (i acc:Nat),i+ns.length≤4→sum4 i (ns.map capN) acc=sum4 i ns acc
 | [],i,acc,_=>rfl
 | [x],i,acc,h=>by
   have hi:i≤3:=by simp at h;omega
   show (if capN x/2^(8 * (4-i))=0 then some (acc+capN x) else none)=(if x/2^(8 * (4-i))=0 then some (acc+x) else none)
   rcases Nat.lt_or_ge x 4294967296 with hx | hx
   ·rw [show capN x=x by unfold capN;omega]
   ·rw [show capN x=4294967296 by unfold capN;omega]
    have hp:0 < 2^(8 * (4-i)):=Nat.two_pow_pos _
    have hle:2^(8 * (4-i))≤4294967296:=by
     have:2^(8 * (4-i))≤2^32:=Nat.pow_le_pow_right (by decide) (by omega)
     exact this
    have h1:0 < 4294967296/2^(8 * (4-i)):=Nat.div_pos hle hp
    have h2:0 < x/2^(8 * (4-i)):=Nat.div_pos (by omega) hp
    rw [if_neg (by omega),if_neg (by omega)]
 | x::y::r,i,acc,h=>by
   show (if 255 < capN x then none else sum4 (i+1) ((y::r).map capN) (acc+capN x * 2^(8 * (3-i))))=(if 255 < x then none else sum4 (i+1) (y::r) (acc+x * 2^(8 * (3-i))))
   by_cases hx:255 < x
   ·rw [if_pos hx,if_pos (by unfold capN;omega)]
   ·rw [if_neg hx,show capN x=x by unfold capN;omega,if_neg hx]
    exact sum4_cap (y::r) (i+1) _ (by simp at h ⊢;omega)
def put4 (ns:List Nat):List Nat:=ns.map capN++List.replicate (4-ns.length) 0
theorem put4_len {ns:List Nat} (h:ns.length≤4):(put4 ns).length=4:=by unfold put4;simp;omega
theorem put4_set {ns:List Nat} {n k:Nat} (h:ns.length=k) (hk:k < 4):(put4 ns).set k (capN n)=put4 (ns++[n]):=by
 subst h
 unfold put4
 rw [List.set_append_right _ _ (by simp),List.length_map,Nat.sub_self,show 4-ns.length=(4-(ns.length+1))+1 by omega,List.replicate_succ,List.set_cons_zero,List.map_append,List.append_assoc,List.length_append]
 rfl
theorem put4_le (ns:List Nat):∀x∈put4 ns,x≤4294967296:=by
 intro x hx
 unfold put4 at hx
 rcases List.mem_append.1 hx with h | h
 ·obtain ⟨y,_,rfl⟩:=List.mem_map.1 h
  unfold capN;omega
 ·have:=List.eq_of_mem_replicate h;omega
theorem zero4_world (w:World):Bk f64 186 (w.alloc (.cells #[.int .u64 0,.int .u64 0,.int .u64 0,.int .u64 0] 186)) w.heap.size (put4 []):=heap_alloc_new w _
theorem pjoin_calls (ns:List Nat) (w:World) (a b c d:Nat) (hp:put4 ns=[a,b,c,d]) (h0:ns≠[]) (h4:ns.length≤4) :
 Calls Tryz.prog 168 #[.agg #[.int .u64 (a:Int),.int .u64 (b:Int),.int .u64 (c:Int),.int .u64 (d:Int)],.int .i64 (ns.length:Int)] w fun e w'=>JPost ns w e w':=by
 have hle:=put4_le ns
 rw [hp] at hle
 have ha:=hle a (by simp)
 have hb:=hle b (by simp)
 have hc:=hle c (by simp)
 have hd:=hle d (by simp)
 have hcap:=sum4_cap ns 0 0 (by omega)
 unfold JPost
 rw [← hcap]
 match ns,h0,h4,hp with
 | [x],_,_,hp =>
   have e:[capN x,0,0,0]=[a,b,c,d]:=hp
   simp only [List.cons.injEq,and_true] at e
   obtain ⟨rfl,rfl,rfl,rfl⟩:=e
   exact pjoin1_calls _ _ _ _ w ha hb hc hd
 | [x,y],_,_,hp =>
   have e:[capN x,capN y,0,0]=[a,b,c,d]:=hp
   simp only [List.cons.injEq,and_true] at e
   obtain ⟨rfl,rfl,rfl,rfl⟩:=e
   exact pjoin2_calls _ _ _ _ w ha hb hc hd
 | [x,y,z],_,_,hp =>
   have e:[capN x,capN y,capN z,0]=[a,b,c,d]:=hp
   simp only [List.cons.injEq,and_true] at e
   obtain ⟨rfl,rfl,rfl,rfl⟩:=e
   exact pjoin3_calls _ _ _ _ w ha hb hc hd
 | [x,y,z,u],_,_,hp =>
   have e:[capN x,capN y,capN z,capN u]=[a,b,c,d]:=hp
   simp only [List.cons.injEq,and_true] at e
   obtain ⟨rfl,rfl,rfl,rfl⟩:=e
   exact pjoin4_calls _ _ _ _ w ha hb hc hd
 | _::_::_::_::_::_,_,h4,_=>simp at h4
theorem four4 {xs:List Nat} (h:xs.length=4):∃a b c d,xs=[a,b,c,d]:=by
 match xs,h with
 | [a,b,c,d],_=>exact ⟨a,b,c,d,rfl⟩
theorem ip4_calls (s:ByteArray) (w:World) (hs:s.size≤100000):Calls Tryz.prog 115 #[.string s] w fun e w'=>P4Post s.data.toList w e w':=by
 have HLN:=hid (bytes_num s)
 by_cases h4000:4000 < s.size
 ·have HX:=hid (parse4_long (by rw [HLN.out];exact h4000))
  have s1:(4000:Int) < (s.size:Int):=by omega
  clear h4000
  go_enter Tryz.func115,Tryz.ntmps115
  go_wp2_with fail
  go_ret2
  exact P4Post.mk HX.out (Below.refl _ _)
 ·have s1:¬(4000:Int) < (s.size:Int):=by omega
  have HL:Hid (¬4000 < s.data.toList.length):=by show¬_;rw [HLN.out];exact h4000
  have HL4:Hid (s.data.toList.length≤4000):=by have:=HL.out;show _≤_;omega
  have HMem:=hid (fun p (h:p∈partsR s.data.toList)=>mem_parts h)
  have HNE:=hid (parts_ne s.data.toList)
  have HMany:=hid (parse4_many HL.out)
  have HForm:=hid (parse4_form HL.out)
  have HS:=hid hs
  obtain ⟨ps,hps⟩:∃ps,partsR s.data.toList=ps:=⟨_,rfl⟩
  have HPS:=hid hps
  clear h4000 hs
  go_enter Tryz.func115,Tryz.ntmps115
  go_wp2_with fail
  refine (pparts_calls s _ HS.out).mono ?_
  rintro e w1 ⟨⟨v,rfl,hv⟩,hb1⟩
  rw [hps] at HMem HNE HMany HForm hv
  have HB1:=hid hb1
  have HV:=hid hv
  obtain ⟨a,cap,rfl,h1,h2,h3⟩:=hv
  unfold maxLen at h2
  clear hb1 h3 hps
  by_cases h4:4 < ps.length
  ·have HX:=hid (HMany.out h4)
   have n1:(4:Int) < (ps.length:Int):=by omega
   clear h4
   go_wp2_with fail
   go_ret2
   exact P4Post.mk HX.out HB1.out
  ·have n1:¬(4:Int) < (ps.length:Int):=by omega
   have HForm2:=hid (HForm.out h4)
   have n4:ps.length≤4:=by omega
   have HBk0:=hid (zero4_world w1)
   have HB0:=hid ((Below.refl w1.heap.size w1).alloc (Nat.le_refl _) (.cells #[.int .u64 0,.int .u64 0,.int .u64 0,.int .u64 0] 186))
   clear HMany HForm h4
   go_wp2_with fail
   go_loopw [22] (fun i wr=>∃(k:Nat) (ns:List Nat),k≤ps.length∧i=.int .i64 (k:Int)∧NumsAt ps k ns∧Bk f64 186 wr w1.heap.size (put4 ns)∧Below w1.heap.size w1 wr) (fun i _=>ps.length-(intOf i).toNat)
   case atStart=>exact ⟨0,[],Nat.zero_le _,rfl,NumsAt.start ps,HBk0.out,HB0.out⟩
   case round =>
    obtain ⟨k,ns,hk,rfl,hna,ho,hb⟩:=hrel
    have HNA:=hid hna
    have HO:=hid ho
    have HB:=hid hb
    have hsz:=hb.size
    have hnl:=hna.1
    have k0:(0:Int)≤(k:Int):=by omega
    clear hna ho hb HBk0 HB0
    by_cases hlt:k < ps.length
    ·obtain ⟨b,off,rfl,hbl,hc⟩:=row_at HV.out hlt
     have hck:=(HB.out.cell (p:=⟨b,off+k,none⟩) hbl).trans hc
     have HNo:=hid (fun h=>HNA.out.none hlt h)
     have HSt:=hid (fun n h=>HNA.out.step (n:=n) hlt h)
     have hpl:(ps[k]'hlt).length≤4000:=by have:=HMem.out _ (List.getElem_mem hlt);have:=HL4.out;omega
     have HK:=hid hlt
     have k1:(k:Int) < (ps.length:Int):=by omega
     have k4:(k:Int) < 4:=by omega
     obtain ⟨oc,of⟩:=HO.out.cell k (by rw [put4_len (by omega)];omega)
     obtain ⟨ov,hov⟩:∃ov,f64 ((put4 ns)[k]'(by rw [put4_len (by omega)];omega))=ov:=⟨_,rfl⟩
     rw [hov] at oc
     have HSet:=hid (fun n=>HO.out.set k (capN n))
     have HBs:=hid (fun n:Nat=>belowSet HB.out (Nat.le_refl _) hsz k (f64 (capN n)))
     have HPut:=hid (fun n=>put4_set (n:=n) hnl (by omega))
     clear hc hov
     generalize (ps[k]'hlt)=p at *
     have HC:=hid (ppart_calls (strOf p))
     rw [str_data] at HC
     have HPS2:Hid ((strOf p).size≤100000):=by show p.length≤100000;omega
     clear hpl hk hlt
     cases hn:numR p with
     | none =>
       have HX:=hid (HForm2.out (HNo.out hn))
       unfold PartPost at HC
       rw [partP_none hn] at HC
       clear hn HNo HSt HSet HBs HPut
       go_wp2_with fail
       refine (HC.out _ HPS2.out).mono ?_
       rintro e wz ⟨rfl,rfl⟩
       go_wp2_with fail
       go_ret2
       exact P4Post.mk HX.out (below_trans HB1.out HB.out)
     | some n =>
       have HN2:=hid (HSt.out n hn)
       unfold PartPost at HC
       rw [partP_some hn] at HC
       replace HSet:=hid (HSet.out n)
       replace HBs:=hid (HBs.out n)
       rw [HPut.out n] at HSet
       unfold f64 capN at HBs
       change Hid (Bk f64 186 (wr.setCell ⟨w1.heap.size,k,none⟩ (.int .u64 ((min n 4294967296:Nat):Int))) w1.heap.size (put4 (ns++[n]))) at HSet
       have m1:min n 4294967296≤4294967296:=Nat.min_le_right _ _
       generalize min n 4294967296=m at *
       have m2:(m:Int)≤4294967296:=by omega
       have m0:(0:Int)≤(m:Int):=by omega
       clear hn HNo HSt hnl HPut m1
       go_wp2_with fail
       refine (HC.out _ HPS2.out).mono ?_
       rintro e wz ⟨rfl,rfl⟩
       go_wp2_with fail
       go_roundw
       case rel=>exact ⟨k+1,ns++[n],HK.out,by go_num,HN2.out,HSet.out,HBs.out⟩
       case measure=>have:=HK.out;simp [intOf];omega
    ·have k1:¬(k:Int) < (ps.length:Int):=by omega
     have HNS0:=hid (HNA.out.done hlt)
     have hnl2:ns.length=ps.length:=by omega
     have HPL:Hid ((partsR s.data.toList).length≤4):=by show _≤_;rw [HPS.out];exact n4
     have HNS:Hid (numsR (partsR s.data.toList)=some ns):=by show _=_;rw [HPS.out];exact HNS0.out
     have HB2:=hid (below_trans HB1.out HB.out)
     have hne:ns≠[]:=by intro e;rw [e] at hnl2;exact HNE.out (List.eq_nil_of_length_eq_zero hnl2.symm)
     obtain ⟨a',b',c',d',hp4⟩:=four4 (put4_len (ns:=ns) (by omega))
     have HJ:=hid (fun w=>pjoin_calls ns w a' b' c' d' hp4 hne (by omega))
     rw [hnl2] at HJ
     rw [hp4] at HO
     have d0:=(HO.out.cell 0 (by show 0 < 4;decide)).1
     have d1:=(HO.out.cell 1 (by show 1 < 4;decide)).1
     have d2:=(HO.out.cell 2 (by show 2 < 4;decide)).1
     have d3:=(HO.out.cell 3 (by show 3 < 4;decide)).1
     simp only [List.getElem_cons_zero,List.getElem_cons_succ,f64] at d0 d1 d2 d3
     have HRange:=hid (parse4_range HL4.out HPL.out HNS.out)
     have HOk:=hid (fun x=>parse4_ok (x:=x) HL4.out HPL.out HNS.out)
     clear hlt hk hnl hnl2 HNA HO HB hne HForm2 HNS0 hp4 HPL HNS
     go_wp2_with fail
     refine (HJ.out _).mono ?_
     rintro e w3 hj
     unfold JPost at hj
     obtain ⟨rfl,hb3⟩:=hj
     have HB3:=hid (below_trans HB2.out hb3)
     clear hb3
     cases hsum:sum4 0 ns 0 with
     | none =>
       have HX:=hid (HRange.out hsum)
       simp only [Option.getD_none,Option.isSome_none]
       clear hsum HRange HOk
       go_wp2_with fail
       go_ret2
       exact P4Post.mk HX.out HB3.out
     | some x =>
       have HX:=hid (HOk.out x hsum)
       simp only [Option.getD_some,Option.isSome_some]
       clear hsum HRange HOk
       go_wp2_with fail
       go_ret2
       exact P4Post.mk HX.out HB3.out
end Go.Proofs.YtigfgloenjoeoaaGreatDoor
