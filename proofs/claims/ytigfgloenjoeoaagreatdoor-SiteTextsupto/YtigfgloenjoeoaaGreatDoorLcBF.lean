import Derived.Test.YtigfgloenjoeoaaGreatDoorLcBC
import Derived.Test.YtigfgloenjoeoaaGreatDoorLcAO
import Derived.Test.YtigfgloenjoeoaaGreatDoorLcAU
import Derived.Deep.RegionHeld3
set_option linter.unusedVariables false
set_option linter.unusedSimpArgs false
set_option maxRecDepth 20000
set_option maxHeartbeats 16000000
namespace Go.Proofs.YtigfgloenjoeoaaGreatDoor
open Go.RowKit
def lrun:Nat→List Nat→Nat→Nat→Nat→Nat×Nat
 | i,[],a,s,z=>(a,s)
 | i,x::r,a,s,z=>if x=0 then (if s < z+1 then lrun (i+1) r (i+1-(z+1)) (z+1) (z+1) else lrun (i+1) r a s (z+1)) else lrun (i+1) r a s 0
def bit (x:Nat):Nat:=if x=0 then 0 else 1
theorem lrun_bit:∀(p:List Nat) (i a s z:Nat),lrun i (p.map bit) a s z=lrun i p a s z
 | [],_,_,_,_=>rfl
 | x::r,i,a,s,z=>by
   show (if bit x=0 then (if s < z+1 then lrun (i+1) (r.map bit) (i+1-(z+1)) (z+1) (z+1) else lrun (i+1) (r.map bit) a s (z+1)) else lrun (i+1) (r.map bit) a s 0)=(if x=0 then (if s < z+1 then lrun (i+1) r (i+1-(z+1)) (z+1) (z+1) else lrun (i+1) r a s (z+1)) else lrun (i+1) r a s 0)
   rw [lrun_bit r,lrun_bit r,lrun_bit r]
   by_cases h:x=0
   ·rw [if_pos h,if_pos (by rw [h];rfl)]
   ·rw [if_neg h,if_neg (by unfold bit;rw [if_neg h];decide)]
theorem runAt_bit (p:List Nat) (i:Nat):runAt (p.map bit) i=runAt p i:=by
 unfold runAt
 rw [← List.map_drop,List.takeWhile_map,List.length_map]
 congr 2
 funext x
 by_cases h:x=0
 ·rw [h];rfl
 ·show (bit x==0)=(x==0)
  rw [show bit x=1 by unfold bit;rw [if_neg h],beq_eq_false_iff_ne.2 h]
  rfl
theorem bestG_bit (p:List Nat):∀i,bestG (p.map bit) i=bestG p i
 | 0=>rfl
 | i+1=>by
   show (if (bestG (p.map bit) i).2 < runAt (p.map bit) i then (i,runAt (p.map bit) i) else bestG (p.map bit) i)=(if (bestG p i).2 < runAt p i then (i,runAt p i) else bestG p i)
   rw [bestG_bit p i,runAt_bit]
def lrunFits (p:List Nat):Bool:=if (lrun 0 p 0 0 0).2 < 2 then decide ((bestR p).1=8) else decide (bestR p=lrun 0 p 0 0 0)&&decide ((lrun 0 p 0 0 0).1+(lrun 0 p 0 0 0).2≤8)
theorem lrunFits_bit (p:List Nat):lrunFits (p.map bit)=lrunFits p:=by
 unfold lrunFits bestR
 rw [lrun_bit,bestG_bit]
theorem lrunFits_all:∀b0 b1 b2 b3 b4 b5 b6 b7:Fin 2,lrunFits [b0.val,b1.val,b2.val,b3.val,b4.val,b5.val,b6.val,b7.val]=true:=by decide +kernel
theorem bit_lt (x:Nat):bit x < 2:=by unfold bit;split<;>omega
theorem lrun_fits (p0 p1 p2 p3 p4 p5 p6 p7:Nat):lrunFits [p0,p1,p2,p3,p4,p5,p6,p7]=true:=by
 rw [← lrunFits_bit]
 exact lrunFits_all ⟨bit p0,bit_lt _⟩ ⟨bit p1,bit_lt _⟩ ⟨bit p2,bit_lt _⟩ ⟨bit p3,bit_lt _⟩ ⟨bit p4,bit_lt _⟩ ⟨bit p5,bit_lt _⟩ ⟨bit p6,bit_lt _⟩ ⟨bit p7,bit_lt _⟩
def LAt (p:List Nat) (k a s z:Nat):Prop:=lrun k (p.drop k) a s z=lrun 0 p 0 0 0∧a≤k∧s≤k∧z≤k
theorem LAt.start (p:List Nat):LAt p 0 0 0 0:=⟨by rw [List.drop_zero],Nat.le_refl _,Nat.le_refl _,Nat.le_refl _⟩
theorem LAt.other {p:List Nat} {k a s z:Nat} (h:LAt p k a s z) (hk:k < p.length) (hx:¬p[k]=0):LAt p (k+1) a s 0:=by
 refine ⟨?_,by have:=h.2.1;omega,by have:=h.2.2.1;omega,by omega⟩
 rw [← h.1,List.drop_eq_getElem_cons hk]
 show _=if p[k]=0 then _ else _
 rw [if_neg hx]
theorem LAt.less {p:List Nat} {k a s z:Nat} (h:LAt p k a s z) (hk:k < p.length) (hx:p[k]=0) (hs:¬s < z+1):LAt p (k+1) a s (z+1):=by
 refine ⟨?_,by have:=h.2.1;omega,by have:=h.2.2.1;omega,by have:=h.2.2.2;omega⟩
 rw [← h.1,List.drop_eq_getElem_cons hk]
 show _=if p[k]=0 then (if s < z+1 then _ else _) else _
 rw [if_pos hx,if_neg hs]
theorem LAt.more {p:List Nat} {k a s z:Nat} (h:LAt p k a s z) (hk:k < p.length) (hx:p[k]=0) (hs:s < z+1):LAt p (k+1) (k-z) (z+1) (z+1):=by
 refine ⟨?_,by omega,by have:=h.2.2.2;omega,by have:=h.2.2.2;omega⟩
 rw [← h.1,List.drop_eq_getElem_cons hk]
 show _=if p[k]=0 then (if s < z+1 then lrun (k+1) _ (k+1-(z+1)) (z+1) (z+1) else _) else _
 rw [if_pos hx,if_pos hs,show k+1-(z+1)=k-z by omega]
theorem LAt.done {p:List Nat} {k a s z:Nat} (h:LAt p k a s z) (hk:¬k < p.length):lrun 0 p 0 0 0=(a,s):=by
 rw [← h.1,List.drop_of_length_le (by omega)]
 rfl
theorem agg_at (p0 p1 p2 p3 p4 p5 p6 p7 k:Nat) (hk:k < ([p0,p1,p2,p3,p4,p5,p6,p7]:List Nat).length) (w:World):(Instr.index 24 (.agg #[.int .u16 (p0:Int),.int .u16 (p1:Int),.int .u16 (p2:Int),.int .u16 (p3:Int),.int .u16 (p4:Int),.int .u16 (p5:Int),.int .u16 (p6:Int),.int .u16 (p7:Int)]) (.int .i64 (k:Int))).run Tryz.prog w=.ok (.int .u16 ((([p0,p1,p2,p3,p4,p5,p6,p7]:List Nat)[k]'hk:Nat):Int)) w:=by
 obtain rfl | rfl | rfl | rfl | rfl | rfl | rfl | rfl:k=0∨k=1∨k=2∨k=3∨k=4∨k=5∨k=6∨k=7:=by simp only [List.length_cons,List.length_nil] at hk;omega
 all_goals rfl
theorem plrun_calls (p0 p1 p2 p3 p4 p5 p6 p7:Nat) (w:World) (hx:∀x∈[p0,p1,p2,p3,p4,p5,p6,p7],x < 65536) :
 Calls Tryz.prog 61 #[agg8 p0 p1 p2 p3 p4 p5 p6 p7] w fun e w'=>e=.returned (.tuple #[.int .i64 ((lrun 0 [p0,p1,p2,p3,p4,p5,p6,p7] 0 0 0).1:Int),.int .i64 ((lrun 0 [p0,p1,p2,p3,p4,p5,p6,p7] 0 0 0).2:Int)])∧Below w.heap.size w w':=by
 have HB:=hid ((Below.refl w.heap.size w).alloc (Nat.le_refl _) (.cells #[.int .u16 (p0:Int),.int .u16 (p1:Int),.int .u16 (p2:Int),.int .u16 (p3:Int),.int .u16 (p4:Int),.int .u16 (p5:Int),.int .u16 (p6:Int),.int .u16 (p7:Int)] 24))
 have HAt:=hid (fun k hk w=>agg_at p0 p1 p2 p3 p4 p5 p6 p7 k hk w)
 have HS:=hid (LAt.start [p0,p1,p2,p3,p4,p5,p6,p7])
 have HX:=hid hx
 have HLen:Hid ([p0,p1,p2,p3,p4,p5,p6,p7].length=8):=rfl
 clear hx
 unfold agg8
 generalize [p0,p1,p2,p3,p4,p5,p6,p7]=p at *
 go_enter Tryz.func61,Tryz.ntmps61
 go_wp2_with fail
 go_loop [2,3,4,8] (fun va vs vz vi=>∃(a s z k:Nat),va=.int .i64 (a:Int)∧vs=.int .i64 (s:Int)∧vz=.int .i64 (z:Int)∧vi=.int .i64 (k:Int)∧k≤8∧LAt p k a s z) (fun _ _ _ vi=>8-(intOf vi).toNat)
 case atStart=>exact ⟨0,0,0,0,rfl,rfl,rfl,rfl,by omega,HS.out⟩
 case round =>
  obtain ⟨a,s,z,k,rfl,rfl,rfl,rfl,hk,hl⟩:=hrel
  have HL:=hid hl
  obtain ⟨-,ha,hs,hz⟩:=hl
  have k0:(0:Int)≤(k:Int):=by omega
  have a0:(0:Int)≤(a:Int):=by omega
  have s0:(0:Int)≤(s:Int):=by omega
  have z0:(0:Int)≤(z:Int):=by omega
  have a1:(a:Int)≤8:=by omega
  have s1:(s:Int)≤8:=by omega
  have z1:(z:Int)≤8:=by omega
  have zk:(z:Int)≤(k:Int):=by omega
  clear ha hs HS
  by_cases h8:k < 8
  ·have hkl:k < p.length:=by rw [HLen.out];exact h8
   have hix:=HAt.out k hkl
   obtain ⟨x,hx⟩:∃x,p[k]'hkl=x:=⟨_,rfl⟩
   have hx16:x < 65536:=by rw [← hx];exact HX.out _ (List.getElem_mem hkl)
   rw [hx] at hix
   have k1:(k:Int) < 8:=by omega
   have HK:=hid h8
   have x0:(0:Int)≤(x:Int):=by omega
   have x1:(x:Int) < 65536:=by omega
   by_cases h0:x=0
   ·have hx0:p[k]'hkl=0:=hx.trans h0
    subst h0
    by_cases hs:s < z+1
    ·have HN:=hid (HL.out.more hkl hx0 hs)
     have g1:(s:Int) < (z:Int)+1:=by omega
     obtain ⟨y,hy⟩:∃y,k-z=y:=⟨_,rfl⟩
     rw [hy] at HN
     have hy2:(k:Int)+1-((z:Int)+1)=(y:Int):=by omega
     have hy3:(k:Int)-(z:Int)=(y:Int):=by omega
     clear hs hx hx0 hkl h8 hk hx16 hz hy
     go_wp2_with fail
     go_round
     case rel=>exact ⟨y,z+1,z+1,k+1,by first | rfl | go_num | (simp only [hy2]),by go_num,by go_num,by go_num,HK.out,HN.out⟩
     case measure=>have:=HK.out;simp [intOf];omega
    ·have HN:=hid (HL.out.less hkl hx0 hs)
     have g1:¬(s:Int) < (z:Int)+1:=by omega
     clear hs hx hx0 hkl h8 hk hx16 hz
     go_wp2_with fail
     go_round
     case rel=>exact ⟨a,s,z+1,k+1,rfl,rfl,by go_num,by go_num,HK.out,HN.out⟩
     case measure=>have:=HK.out;simp [intOf];omega
   ·have HN:=hid (HL.out.other hkl (by rw [hx];exact h0))
    have g1:((x:Int)==0)=false:=by rw [beq_eq_false_iff_ne];omega
    have g2:((x:Int) != 0)=true:=by rw [bne_iff_ne];omega
    clear h0 hx hkl h8 hk hx16 hz
    go_wp2_with fail
    go_round
    case rel=>exact ⟨a,s,0,k+1,rfl,rfl,rfl,by go_num,HK.out,HN.out⟩
    case measure=>have:=HK.out;simp [intOf];omega
  ·have k1:¬(k:Int) < 8:=by omega
   have HD:=hid (HL.out.done (by rw [HLen.out];exact h8))
   clear h8 hk hz HAt
   go_wp2_with fail
   go_ret2
   rw [HD.out]
   exact ⟨rfl,HB.out⟩
theorem digs16_len {x:Nat} (h:x < 65536):(digsOf 16 x).length≤4:=digsOf_len (b:=16) (by decide) (by decide) (f:=3) (by decide) (by omega)
theorem join_len:∀(l:List Nat),(∀x∈l,x < 65536)→(joinC 58 (pcs l)).length≤5 * l.length
 | [],_=>by simp [pcs,joinC]
 | [x],h=>by
   have:=digs16_len (h x (by simp))
   simp only [pcs,List.map_cons,List.map_nil,joinC_one,List.length_cons,List.length_nil]
   omega
 | x::y::r,h=>by
   have h1:=digs16_len (h x (by simp))
   have h2:=join_len (y::r) (fun z hz=>h z (by simp at hz ⊢;rcases hz with e | e<;>simp [e]))
   show (digsOf 16 x++58::joinC 58 (pcs (y::r))).length≤_
   rw [List.length_append,List.length_cons]
   simp only [List.length_cons] at h2 ⊢
   omega
theorem ppieces_calls (v:Value) (l:List Nat) (w:World) (hv:Row f16 w v l) (hl:l.length≤8) (hx:∀x∈l,x < 65536) (ht:Tab w) :
 Calls Tryz.prog 62 #[v] w fun e w'=>e=.returned (.string (strOf (joinC 58 (pcs l))))∧Below w.heap.size w w':=by
 have HV:=hid hv
 have HT:=hid ht
 have HX:=hid hx
 have HJ:=hid (fun k=>join_len (l.take k) (fun x h=>hx x (List.mem_of_mem_take h)))
 obtain ⟨a,cap,rfl,h1,h2,h3⟩:=hv
 unfold maxLen at h2
 clear h3 ht hx
 go_enter Tryz.func62,Tryz.ntmps62
 go_wp2_with fail
 go_loopw [3,8] (fun vo vi wr=>∃k:Nat,k≤l.length∧vi=.int .i64 (k:Int)∧BOwn wr w.heap.size vo (joinC 58 (pcs (l.take k)))∧Below w.heap.size w wr) (fun _ vi _=>l.length-(intOf vi).toNat)
 case atStart=>exact ⟨0,Nat.zero_le _,rfl,Own.nil _ _ _ _,Below.refl _ _⟩
 case round =>
  obtain ⟨k,hk,rfl,ho,hb⟩:=hrel
  have HO:=hid ho
  have HB:=hid hb
  have HTr:=hid (HT.out.below hb)
  have k0:(0:Int)≤(k:Int):=by omega
  have HLen:Hid ((joinC 58 (pcs (l.take k))).length≤40):=by have:=HJ.out k;rw [List.length_take] at this;show _≤_;omega
  clear ho hb
  by_cases hlt:k < l.length
  ·obtain ⟨b,off,rfl,hbl,hc⟩:=row_at HV.out hlt
   have hck:=(HB.out.cell (p:=⟨b,off+k,none⟩) hbl).trans hc
   have hx16:=HX.out _ (List.getElem_mem hlt)
   have HTake:=hid (take_more hlt)
   have HK:=hid hlt
   have k1:(k:Int) < (l.length:Int):=by omega
   clear hc
   generalize (l[k]'hlt)=x at *
   unfold f16 at hck
   have x0:(0:Int)≤(x:Int):=by omega
   have x1:IntKind.wrap .u64 (x:Int)=(x:Int):=by rw [IntKind.wrap_u64];omega
   have HX16:=hid hx16
   rcases Nat.eq_zero_or_pos k with h0 | h0
   ·subst h0
    rw [Nat.add_zero] at hck
    have l0:0 < l.length:=HK.out
    have HC:=hid (pau16_calls w.heap.size _ _ x HX16.out wr HO.out HB.out.size (by have:=HLen.out;omega) HTr.out)
    have HEq:Hid (joinC 58 (pcs (l.take 0))++digsOf 16 x=joinC 58 (pcs (l.take (0+1)))):=by show _=_;rw [HTake.out];rfl
    rw [HEq.out] at HC
    clear HTake hx16 hk hlt HLen HEq HO
    go_wp2_with fail
    refine HC.out.mono ?_
    rintro e w2 ⟨v2,rfl,ho2,hb2⟩
    have HO2:=hid ho2
    have HB2:=hid (HB.out.trans hb2)
    clear ho2 hb2
    go_wp2_with fail
    go_roundw
    case rel=>exact ⟨0+1,HK.out,by go_num,HO2.out,HB2.out⟩
    case measure=>have:=HK.out;simp [intOf];omega
   ·have HEq:Hid (joinC 58 (pcs (l.take k))++[58]++digsOf 16 x=joinC 58 (pcs (l.take (k+1)))):=by
     show _=_
     rw [HTake.out,join_more]
     intro e
     have:=congrArg List.length e
     rw [List.length_take,List.length_nil] at this
     omega
    obtain ⟨v3,w3,hr,ho3,hg3⟩:=appendStr_run HO.out ⟨#[58]⟩ (by have:=HLen.out;show _+1≤_;omega) HB.out.size
    change BOwn _ _ _ (joinC 58 (pcs (l.take k))++[58]) at ho3
    have HB3:=hid (HB.out.grown hg3 HB.out.size (fun k hk=>(World.ownsRow.lt HO.out k hk).1))
    have HT3:=hid (HT.out.below HB3.out)
    have HC:=hid (pau16_calls w.heap.size _ _ x HX16.out w3 ho3 HB3.out.size (by have:=HLen.out;rw [List.length_append];simp only [List.length_cons,List.length_nil];omega) HT3.out)
    rw [HEq.out] at HC
    have k2:(0:Int) < (k:Int):=by omega
    clear HTake hx16 hk hlt HLen HEq HO ho3 hg3 h0
    go_wp2_with (at_builtin;go_must (refine wpList_append_two hr rfl _ _ rfl rfl rfl rfl ?_))
    refine HC.out.mono ?_
    rintro e w2 ⟨v2,rfl,ho2,hb2⟩
    have HO2:=hid ho2
    have HB2:=hid (HB3.out.trans hb2)
    clear ho2 hb2
    go_wp2_with fail
    go_roundw
    case rel=>exact ⟨k+1,HK.out,by go_num,HO2.out,HB2.out⟩
    case measure=>have:=HK.out;simp [intOf];omega
  ·have k1:¬(k:Int) < (l.length:Int):=by omega
   have hkl:k=l.length:=by omega
   rw [hkl,List.take_length] at HO
   have hcv:=run_string HO.out.row
   clear hkl hlt hk HLen
   go_wp2_with fail
   go_ret
   exact ⟨rfl,HB.out⟩
theorem Bk.row {α:Type} {f:α→Value} {t:TypeId} {w:World} {g:Nat} {xs:List α} (h:Bk f t w g xs) (k m cap:Nat) (hk:k+m≤xs.length) (hc:m≤cap) (hcap:cap≤1000):Row f w (.slice (some ⟨g,k,none⟩) m cap) ((xs.drop k).take m):=by
 have hl:((xs.drop k).take m).length=m:=by rw [List.length_take,List.length_drop];omega
 refine ⟨some ⟨g,k,none⟩,cap,by rw [hl],by rw [hl];exact hc,by unfold maxLen;omega,fun _=>⟨g,k,rfl,h.lt,fun i hi=>?_⟩⟩
 have:=(h.cell (k+i) (by omega)).1
 rw [this,List.getElem_take,List.getElem_drop]
theorem Row.none {α:Type} (f:α→Value) (w:World) (a:Option Addr):Row f w (.slice a 0 0) []:=⟨a,0,rfl,Nat.le_refl _,Nat.zero_le _,fun h=>absurd rfl h⟩
theorem len_28:Tryz.prog.arrayLen 24=8:=by kernel_rfl
theorem elem_28:Tryz.prog.elem 24=23:=by kernel_rfl
theorem slice_h (G A:Nat) (h:A≤8) (W:World):(Instr.sliceAt 24 (.pointer (some ⟨G,0,none⟩)) none (some (.int .i64 (A:Int))) none).run Tryz.prog W=.ok (.slice (some ⟨G,0,none⟩) A 8) W:=by
 rw [run_sliceAt_array_h W 24 ⟨G,0,none⟩ (by kernel_rfl) .i64 (A:Int) (by omega) (by rw [len_28];omega),len_28,elem_28,Tryz.sizeOf23]
 simp [slicedAt,Result.andThen,Addr.add]
def tailV (G T:Nat):Value:=.slice (some (if 8=T then ⟨G,0,none⟩ else ⟨G,T,none⟩)) (8-T) (8-T)
theorem slice_l (G T:Nat) (h:T≤8) (W:World):(Instr.sliceAt 24 (.pointer (some ⟨G,0,none⟩)) (some (.int .i64 (T:Int))) none none).run Tryz.prog W=.ok (tailV G T) W:=by
 rw [run_sliceAt_array_l W 24 ⟨G,0,none⟩ (by kernel_rfl) .i64 (T:Int) (by omega) (by rw [len_28];omega),len_28,elem_28,Tryz.sizeOf23]
 unfold tailV
 simp only [slicedAt,Result.andThen,Int.toNat_natCast,Nat.mul_one,addr_add,Nat.zero_add]
theorem tail_row {w:World} {G T:Nat} {xs:List Nat} (h:Bk f16 24 w G xs) (hl:xs.length=8) (hT:T≤8):Row f16 w (tailV G T) (xs.drop T):=by
 unfold tailV
 by_cases h8:8=T
 ·rw [if_pos h8,← h8,List.drop_of_length_le (by omega)]
  exact Row.none _ _ _
 ·rw [if_neg h8]
  have:=h.row T (8-T) (8-T) (by omega) (Nat.le_refl _) (by omega)
  rw [List.take_of_length_le (by rw [List.length_drop];omega)] at this
  exact this
theorem ipr6_calls (p0 p1 p2 p3 p4 p5 p6 p7:Nat) (w:World) (hx:∀x∈[p0,p1,p2,p3,p4,p5,p6,p7],x < 65536) (ht:Tab w) :
 Calls Tryz.prog 46 #[agg8 p0 p1 p2 p3 p4 p5 p6 p7] w fun e w'=>e=.returned (.string (strOf (print6R [p0,p1,p2,p3,p4,p5,p6,p7])))∧Below w.heap.size w w':=by
 have HB:=hid ((Below.refl w.heap.size w).alloc (Nat.le_refl _) (.cells #[.int .u16 (p0:Int),.int .u16 (p1:Int),.int .u16 (p2:Int),.int .u16 (p3:Int),.int .u16 (p4:Int),.int .u16 (p5:Int),.int .u16 (p6:Int),.int .u16 (p7:Int)] 24))
 have HG:Hid (Bk f16 24 (w.alloc (.cells #[.int .u16 (p0:Int),.int .u16 (p1:Int),.int .u16 (p2:Int),.int .u16 (p3:Int),.int .u16 (p4:Int),.int .u16 (p5:Int),.int .u16 (p6:Int),.int .u16 (p7:Int)] 24)) w.heap.size [p0,p1,p2,p3,p4,p5,p6,p7]):=heap_alloc_new w _
 have HC:=hid (fun w=>plrun_calls p0 p1 p2 p3 p4 p5 p6 p7 w hx)
 have HF:=hid (lrun_fits p0 p1 p2 p3 p4 p5 p6 p7)
 have HX:=hid hx
 have HT:=hid ht
 have HLen:Hid ([p0,p1,p2,p3,p4,p5,p6,p7].length=8):=rfl
 clear hx ht
 unfold agg8 at HC ⊢
 generalize [p0,p1,p2,p3,p4,p5,p6,p7]=p at *
 unfold lrunFits at HF
 generalize lrun 0 p 0 0 0=r at *
 obtain ⟨A,S⟩:=r
 go_enter Tryz.func46,Tryz.ntmps46
 go_wp2_with fail
 refine (HC.out _).mono ?_
 rintro e w1 ⟨rfl,hb⟩
 have HG1:=hid (HG.out.below hb)
 have HB1:=hid (below_trans HB.out hb)
 have HT1:=hid (HT.out.below HB1.out)
 clear hb HG HB HT HC
 obtain ⟨G,hG⟩:∃G,w.heap.size=G:=⟨_,rfl⟩
 rw [hG] at HG1 ⊢
 clear hG
 by_cases h2:S < 2
 ·have HF2:=HF.out
  simp only [if_pos h2,decide_eq_true_eq] at HF2
  have HP:Hid (print6R p=joinC 58 (pcs p)):=by show _=_;unfold print6R;rw [if_pos HF2]
  have hrow:=HG1.out.row 0 8 8 (by rw [HLen.out];omega) (by omega) (by omega)
  rw [List.drop_zero,List.take_of_length_le (by rw [HLen.out];omega)] at hrow
  have HC2:=hid (ppieces_calls _ p w1 hrow (by rw [HLen.out];omega) HX.out HT1.out)
  have s1:(S:Int) < 2:=by omega
  clear HF2 h2 HF hrow
  go_wp2_with fail
  refine HC2.out.mono ?_
  rintro e w2 ⟨rfl,hb⟩
  have HB2:=hid (HB1.out.trans (hb.mono HB1.out.size))
  clear hb
  go_wp2_with fail
  go_ret
  exact ⟨by rw [HP.out];rfl,HB2.out⟩
 ·have HF2:=HF.out
  simp only [if_neg h2,Bool.and_eq_true,decide_eq_true_eq] at HF2
  obtain ⟨hbest,hle⟩:=HF2
  obtain ⟨T,hT⟩:∃T,A+S=T:=⟨_,rfl⟩
  have HP:Hid (strOf (joinC 58 (pcs (p.take A)))++strOf [58,58]++strOf (joinC 58 (pcs (p.drop T)))=strOf (print6R p)):=by
   show _=_
   rw [cat_str,cat_str]
   unfold print6R
   rw [hbest,if_neg (by show¬A=8;omega)]
   show strOf _=strOf (joinC 58 (pcs (p.take A))++58::58::joinC 58 (pcs (p.drop (A+S))))
   rw [hT]
   simp
  have hs1:=slice_h G A (by omega)
  have hs2:=slice_l G T (by omega)
  have hrow1:=HG1.out.row 0 A 8 (by rw [HLen.out];omega) (by omega) (by omega)
  rw [List.drop_zero] at hrow1
  have HR1:=hid hrow1
  have HR2:=hid (tail_row HG1.out HLen.out (T:=T) (by omega))
  have HC1:=hid (fun W h t=>ppieces_calls (.slice (some ⟨G,0,none⟩) A 8) (p.take A) W h (by rw [List.length_take];omega) (fun x hx=>HX.out x (List.mem_of_mem_take hx)) t)
  have HC2:=hid (fun W h t=>ppieces_calls (tailV G T) (p.drop T) W h (by rw [List.length_drop,HLen.out];omega) (fun x hx=>HX.out x (List.mem_of_mem_drop hx)) t)
  have j1:=join_len (p.take A) (fun x hx=>HX.out x (List.mem_of_mem_take hx))
  have j2:=join_len (p.drop T) (fun x hx=>HX.out x (List.mem_of_mem_drop hx))
  rw [List.length_take] at j1
  rw [List.length_drop,HLen.out] at j2
  have z1:((strOf (joinC 58 (pcs (p.take A)))).size:Int)≤40:=by rw [str_size];omega
  have z2:((strOf (joinC 58 (pcs (p.drop T)))).size:Int)≤40:=by rw [str_size];omega
  have z3:(⟨#[58,58]⟩:ByteArray).size=2:=rfl
  have s1:¬(S:Int) < 2:=by omega
  have a0:(0:Int)≤(A:Int):=by omega
  have a8:(A:Int)≤8:=by omega
  have t0:(0:Int)≤(T:Int):=by omega
  have t8:(T:Int)≤8:=by omega
  have hTT:(A:Int)+(S:Int)=(T:Int):=by omega
  have hTw:IntKind.wrap .i64 (T:Int)=(T:Int):=by rw [IntKind.wrap_i64];omega
  clear j1 j2 hrow1 h2 hbest hle hT HF
  generalize strOf (joinC 58 (pcs (p.take A)))=Q1 at *
  generalize strOf (joinC 58 (pcs (p.drop T)))=Q2 at *
  generalize tailV G T=V2 at *
  have y1:¬9223372036854775807 < Q1.size+2:=by omega
  have y2:¬9223372036854775807 < Q1.size+2+Q2.size:=by omega
  have y3:Q1.size+2≤9223372036854775807:=by omega
  have y4:Q1.size+2+Q2.size≤9223372036854775807:=by omega
  go_wp2_with fail
  go_region_held3 (fun w'=>True) (trivial) (first
   | (go_at_call 62;(with_reducible refine Calls.mono (HC1.out _ ?hr1 ?ht1) ?_);(case hr1=>(first | exact HR1.out | (refine Row.below ?_ hq2;exact HR1.out)));(case ht1=>(first | exact HT1.out | (refine Tab.below ?_ hq2;exact HT1.out)));rintro e wa ⟨rfl,hq1⟩)
   | (go_at_call 62;(with_reducible refine Calls.mono (HC2.out _ ?hr2 ?ht2) ?_);(case hr2=>(first | exact HR2.out | (refine Row.below ?_ hq1;exact HR2.out)));(case ht2=>(first | exact HT1.out | (refine Tab.below ?_ hq1;exact HT1.out)));rintro e wb ⟨rfl,hq2⟩))
  all_goals
   go_wp2_with fail
   go_ret
   refine ⟨by rw [← HP.out];rfl,?_⟩
   first
    | exact (HB1.out.drew.trans (hq1.mono HB1.out.size)).trans (hq2.mono (Nat.le_trans HB1.out.size hq1.size))
    | exact (HB1.out.drew.trans (hq2.mono HB1.out.size)).trans (hq1.mono (Nat.le_trans HB1.out.size hq2.size))
def valF (b:Nat) (l:List UInt8) (n:Nat):Nat:=l.foldl (fun n c=>n * b+dgv c) n
theorem valF_ge (b:Nat):∀(l:List UInt8) (n:Nat),n * b^l.length≤valF b l n
 | [],n=>by simp [valF]
 | c::r,n=>by
   have h:=valF_ge b r (n * b+dgv c)
   have h2:n * b * b^r.length≤(n * b+dgv c) * b^r.length:=Nat.mul_le_mul_right _ (Nat.le_add_right _ _)
   rw [List.length_cons,Nat.pow_succ,Nat.mul_comm (b^r.length) b,← Nat.mul_assoc]
   exact Nat.le_trans h2 h
theorem valX_ge {l:List UInt8} (hd:digsR 10 l=true) (hn:l≠[]) (h0:l.head? ≠ some 48) (h3:3 < l.length):1000≤valX 10 l:=by
 match l,hn with
 | c::r,_ =>
   have hc:digB 10 c=true:=by
    unfold digsR at hd
    rw [List.all_cons,Bool.and_eq_true] at hd
    exact hd.1
   have hc0:c≠48:=fun e=>h0 (by rw [e];rfl)
   have hg:1≤dgv c:=by
    unfold digB at hc
    unfold dgv
    cases hx:hexV c.toNat with
    | none=>rw [hx] at hc;cases hc
    | some d =>
      show 1≤d
      rcases Nat.eq_zero_or_pos d with h | h
      ·exfalso
       rw [h] at hx
       apply hc0
       have hz:∀n,n < 256→hexV n=some 0→n=48:=by decide +kernel
       have:=hz c.toNat (byte_lt c) hx
       exact UInt8.toNat.inj this
      ·exact h
   have h:=valF_ge 10 r (dgv c)
   have e:valX 10 (c::r)=valF 10 r (dgv c):=by unfold valX valF;rw [List.foldl_cons,Nat.zero_mul,Nat.zero_add]
   rw [e]
   have hl:3≤r.length:=by simp only [List.length_cons] at h3;omega
   have h4:10^3≤10^r.length:=Nat.pow_le_pow_right (by decide) hl
   have h5:1 * 10^r.length≤dgv c * 10^r.length:=Nat.mul_le_mul_right _ hg
   have h6:(10:Nat)^3=1000:=by decide
   omega
theorem base_dec {q:List UInt8} (hp:¬(1 < q.length∧q.head? = some 48)) (hd:digsR 10 q=true):baseR q=(q,10):=by
 have hh:hexR q=false:=by
  match q with
  | []=>rfl
  | [c]=>rfl
  | a::x::r =>
    show (a==48&&(x==120||x==88))=false
    rw [beq_eq_false_iff_ne.2 (fun e=>hp ⟨by simp,by rw [e];rfl⟩)]
    rfl
 unfold baseR
 rw [hh,if_neg (by decide),if_neg hp]
theorem oct_prog (q:List UInt8):octR q=if q=[]∨(1 < q.length∧q.head? = some 48)∨digsR 10 q=false∨255 < satR 10 q then none else some (satR 10 q):=by
 by_cases h1:q=[]
 ·rw [oct_bad (.inl h1),if_pos (.inl h1)]
 by_cases h2:1 < q.length∧q.head? = some 48
 ·rw [oct_bad (.inr (.inr (.inr h2))),if_pos (.inr (.inl h2))]
 by_cases h3:digsR 10 q=false
 ·rw [oct_bad (.inr (.inr (.inl h3))),if_pos (.inr (.inr (.inl h3)))]
 have hd:digsR 10 q=true:=by cases h:digsR 10 q with | true=>rfl | false=>exact absurd h h3
 have hs:=satR_eq 10 (by decide) q.length q rfl
 by_cases h4:3 < q.length
 ·have hg:1000≤valX 10 q:=valX_ge hd h1 (fun e=>h2 ⟨by omega,e⟩) h4
  rw [oct_bad (.inr (.inl h4)),if_pos (.inr (.inr (.inr (by rw [hs];omega))))]
 ·have hlt:=valX_lt q.length q rfl hd
  have hle:10^q.length≤10^3:=Nat.pow_le_pow_right (by decide) (by omega)
  have h6:(10:Nat)^3=1000:=by decide
  have hn:numR q=some (satR 10 q):=by
   unfold numR
   rw [if_neg h1,base_dec h2 hd]
   show (if digsR 10 q=true then some (valRIp 10 q) else none)=_
   rw [if_pos hd,hs,valR_eq 10 (by decide) _ q rfl,Nat.min_eq_left (by omega),Nat.min_eq_left (by omega)]
  have hb:¬(q=[]∨3 < q.length∨digsR 10 q=false∨(1 < q.length∧q.head? = some 48)):=by
   rintro (h | h | h | h)
   ·exact h1 h
   ·exact h4 h
   ·exact h3 h
   ·exact h2 h
  have hg:(numR q).getD 0=satR 10 q:=by rw [hn];rfl
  by_cases h5:255 < satR 10 q
  ·rw [oct_great hg h5,if_pos (.inr (.inr (.inr h5)))]
  ·rw [oct_good hb hg h5,if_neg]
   rintro (h | h | h | h)
   ·exact h1 h
   ·exact h2 h
   ·exact h3 h
   ·exact h5 h
abbrev idV (v:Value):Value:=v
abbrev Bk9 (w:World) (g:Nat) (vs:List Value):Prop:=Bk idV 153 w g vs
theorem fill9 {B G:Nat} {w w3:World} {y0 y1 y2 y3 y4 y5 y6 y7 y8:Value} (hb:Bk9 w3 G [y0,y1,y2,y3,y4,y5,y6,y7,y8]) (hB:Below B w w3) (hG:B≤G) (hs:B≤w3.heap.size) (x0 x1 x2 x3 x4 x5 x6 x7 x8:Value) :
 Bk9 (((((((((w3.setCell ⟨G,0,none⟩ x0).setCell ⟨G,1,none⟩ x1).setCell ⟨G,2,none⟩ x2).setCell ⟨G,3,none⟩ x3).setCell ⟨G,4,none⟩ x4).setCell ⟨G,5,none⟩ x5).setCell ⟨G,6,none⟩ x6).setCell ⟨G,7,none⟩ x7).setCell ⟨G,8,none⟩ x8) G [x0,x1,x2,x3,x4,x5,x6,x7,x8] ∧
 Below B w (((((((((w3.setCell ⟨G,0,none⟩ x0).setCell ⟨G,1,none⟩ x1).setCell ⟨G,2,none⟩ x2).setCell ⟨G,3,none⟩ x3).setCell ⟨G,4,none⟩ x4).setCell ⟨G,5,none⟩ x5).setCell ⟨G,6,none⟩ x6).setCell ⟨G,7,none⟩ x7).setCell ⟨G,8,none⟩ x8):=by
 refine ⟨((((((((hb.set 0 x0).set 1 x1).set 2 x2).set 3 x3).set 4 x4).set 5 x5).set 6 x6).set 7 x7).set 8 x8,?_⟩
 refine belowSet (belowSet (belowSet (belowSet (belowSet (belowSet (belowSet (belowSet (belowSet hB hG hs 0 _) hG ?_ 1 _) hG ?_ 2 _) hG ?_ 3 _) hG ?_ 4 _) hG ?_ 5 _) hG ?_ 6 _) hG ?_ 7 _) hG ?_ 8 _
 all_goals simpa [World.setCell] using hs
theorem cells9 {w:World} {g:Nat} {y0 y1 y2 y3 y4 y5 y6 y7 y8:Value} (h:Bk9 w g [y0,y1,y2,y3,y4,y5,y6,y7,y8]) :
 (w.cell? ⟨g,0,none⟩=some y0∧w.cell? ⟨g,1,none⟩=some y1∧w.cell? ⟨g,2,none⟩=some y2∧w.cell? ⟨g,3,none⟩=some y3∧w.cell? ⟨g,4,none⟩=some y4∧w.cell? ⟨g,5,none⟩=some y5∧w.cell? ⟨g,6,none⟩=some y6∧w.cell? ⟨g,7,none⟩=some y7∧w.cell? ⟨g,8,none⟩=some y8) ∧
 (w.frozen? ⟨g,0,none⟩=false∧w.frozen? ⟨g,1,none⟩=false∧w.frozen? ⟨g,2,none⟩=false∧w.frozen? ⟨g,3,none⟩=false∧w.frozen? ⟨g,4,none⟩=false∧w.frozen? ⟨g,5,none⟩=false∧w.frozen? ⟨g,6,none⟩=false∧w.frozen? ⟨g,7,none⟩=false∧w.frozen? ⟨g,8,none⟩=false):=by
 have c:=fun i hi=>h.cell i hi
 exact ⟨⟨(c 0 (by simp)).1,(c 1 (by simp)).1,(c 2 (by simp)).1,(c 3 (by simp)).1,(c 4 (by simp)).1,(c 5 (by simp)).1,(c 6 (by simp)).1,(c 7 (by simp)).1,(c 8 (by simp)).1⟩,
  ⟨(c 0 (by simp)).2,(c 1 (by simp)).2,(c 2 (by simp)).2,(c 3 (by simp)).2,(c 4 (by simp)).2,(c 5 (by simp)).2,(c 6 (by simp)).2,(c 7 (by simp)).2,(c 8 (by simp)).2⟩⟩
def zero9:List Value:=[.int .u16 0,.int .u16 0,.int .u16 0,.int .u16 0,.int .u16 0,.int .u16 0,.int .u16 0,.int .u16 0,.int .i64 0]
theorem zero9_world (w:World):Bk9 (w.alloc (.cells #[.int .u16 0,.int .u16 0,.int .u16 0,.int .u16 0,.int .u16 0,.int .u16 0,.int .u16 0,.int .u16 0,.int .i64 0] 153)) w.heap.size zero9:=heap_alloc_new w _
def RowIs (r:Option (List Nat)) (v:Value):Prop:=∃x0 x1 x2 x3 x4 x5 x6 x7 c:Nat,v=.agg #[.int .u16 (x0:Int),.int .u16 (x1:Int),.int .u16 (x2:Int),.int .u16 (x3:Int),.int .u16 (x4:Int),.int .u16 (x5:Int),.int .u16 (x6:Int),.int .u16 (x7:Int),.int .i64 (c:Int)]∧c≤8∧∀ns,r=some ns→c=ns.length∧[x0,x1,x2,x3,x4,x5,x6,x7]=ns++List.replicate (8-ns.length) 0
def RPost (r:Option (List Nat)) (w:World) (e:Ending) (w':World):Prop:=∃v,RowIs r v∧e=.returned (.tuple #[v,.bool r.isSome])∧Below w.heap.size w w'
theorem RPost.no {r:Option (List Nat)} {w w':World} (x0 x1 x2 x3 x4 x5 x6 x7 c:Nat) (hc:c≤8) (h:r=none) (hb:Below w.heap.size w w'):RPost r w (.returned (.tuple #[.agg #[.int .u16 (x0:Int),.int .u16 (x1:Int),.int .u16 (x2:Int),.int .u16 (x3:Int),.int .u16 (x4:Int),.int .u16 (x5:Int),.int .u16 (x6:Int),.int .u16 (x7:Int),.int .i64 (c:Int)],.bool false])) w' :=
 ⟨_,⟨x0,x1,x2,x3,x4,x5,x6,x7,c,rfl,hc,fun ns e=>by rw [h] at e;cases e⟩,by rw [h];rfl,hb⟩
theorem RPost.yes {r:Option (List Nat)} {w w':World} {ns:List Nat} (x0 x1 x2 x3 x4 x5 x6 x7 c:Nat) (h:r=some ns) (hc:c=ns.length) (hc8:c≤8) (hx:[x0,x1,x2,x3,x4,x5,x6,x7]=ns++List.replicate (8-ns.length) 0) (hb:Below w.heap.size w w'):RPost r w (.returned (.tuple #[.agg #[.int .u16 (x0:Int),.int .u16 (x1:Int),.int .u16 (x2:Int),.int .u16 (x3:Int),.int .u16 (x4:Int),.int .u16 (x5:Int),.int .u16 (x6:Int),.int .u16 (x7:Int),.int .i64 (c:Int)],.bool true])) w' :=
 ⟨_,⟨x0,x1,x2,x3,x4,x5,x6,x7,c,rfl,hc8,fun ms e=>by rw [h] at e;cases e;exact ⟨hc,hx⟩⟩,by rw [h];rfl,hb⟩
end Go.Proofs.YtigfgloenjoeoaaGreatDoor
