import Derived.Test.YtigfgloenjoeoaaGreatDoorLcBT
import Derived.Test.YtigfgloenjoeoaaGreatDoorLcBU
import Derived.Lib.CountLaws
import Derived.Test.YtigfgloenjoeoaaGreatDoorLcAB
set_option linter.unusedVariables false
set_option linter.unusedSimpArgs false
set_option maxRecDepth 20000
set_option maxHeartbeats 16000000
namespace Go.Proofs.YtigfgloenjoeoaaGreatDoor
open Go.RowKit Go.Shelf Go.Lib Go.Sort
def lowP (c:Int):Bool:=decide (c≤32)
theorem dw_yes {x:Int} {r:List Int} (h:x≤32):(x::r).dropWhile lowP=r.dropWhile lowP:=by rw [List.dropWhile_cons,if_pos (by unfold lowP;simpa using h)]
theorem dw_no {x:Int} {r:List Int} (h:¬x≤32):(x::r).dropWhile lowP=x::r:=by rw [List.dropWhile_cons,if_neg (by unfold lowP;simpa using h)]
def Seg (w:World) (g off cap:Nat) (L:List Int):Prop :=
 ∃cs,w.heap[g]? = some (.cells cs 3 (0,0))∧L.length≤cap∧cap≤maxLen∧∀i (h:i < L.length),cs[off+i]? = some (fi L[i])
theorem Seg.cell {w:World} {g off cap:Nat} {L:List Int} (h:Seg w g off cap L) (i:Nat) (hi:i < L.length):w.cell? ⟨g,off+i,none⟩=some (fi L[i])∧w.frozen? ⟨g,off+i,none⟩=false:=by
 obtain ⟨cs,h1,h2,h3,h4⟩:=h
 refine ⟨?_,?_⟩
 ·rw [← h4 i hi];simp [World.cell?,h1]
 ·simp [World.frozen?,h1]
theorem Seg.tail {w:World} {g off cap:Nat} {x:Int} {L:List Int} (h:Seg w g off cap (x::L)):Seg w g (off+1) (cap-1) L:=by
 obtain ⟨cs,h1,h2,h3,h4⟩:=h
 rw [List.length_cons] at h2
 exact ⟨cs,h1,by omega,by omega,fun i hi=>by
  have:=h4 (i+1) (by rw [List.length_cons];omega)
  rw [show off+1+i=off+(i+1) by omega,this];rfl⟩
theorem Seg.tailC {w:World} {g off cap:Nat} {x:Int} {L:List Int} (h:Seg w g off cap (x::L)):Seg w g (if cap=1 then off else off+1) (cap-1) L:=by
 by_cases hc:cap=1
 ·obtain ⟨cs,h1,h2,h3,h4⟩:=h
  rw [List.length_cons] at h2
  have:L=[]:=List.eq_nil_of_length_eq_zero (by omega)
  subst this
  exact ⟨cs,h1,Nat.zero_le _,by omega,fun i hi=>absurd hi (Nat.not_lt_zero _)⟩
 ·rw [if_neg hc];exact h.tail
theorem dw_stop {L M:List Int} (h:¬ ∃x r,L=x::r∧x≤32) (e:L.dropWhile lowP=M):L=M:=by
 cases L with
 | nil=>exact e
 | cons x r=>rw [← e,dw_no (fun hx=>h ⟨x,r,rfl,hx⟩)]
theorem Seg.init {w:World} {g off cap:Nat} {x:Int} {L:List Int} (h:Seg w g off cap (L++[x])):Seg w g off cap L:=by
 obtain ⟨cs,h1,h2,h3,h4⟩:=h
 rw [List.length_append,List.length_singleton] at h2
 exact ⟨cs,h1,by omega,h3,fun i hi=>by
  have:=h4 i (by rw [List.length_append,List.length_singleton];omega)
  rw [this,List.getElem_append_left hi]⟩
theorem seg_of {w:World} {B g cap:Nat} {L:List Int} {n:Nat} (h:IOwn w B (.slice (some ⟨g,0,none⟩) n cap) L):Seg w g 0 cap L:=by
 rcases h.2 with ⟨e,_⟩ | ⟨g',cap',cur,e,hb,hg,hnc,hcm,hcs,htake⟩
 ·cases e
 ·have e':g'=g∧cap'=cap:=by injection e with e1 e2 e3;injection e1 with e1;injection e1 with e1;exact ⟨e1.symm,e3.symm⟩
  obtain ⟨rfl,rfl⟩:=e'
  refine ⟨cur,hg,hnc,hcm,fun i hi=>?_⟩
  have h1:(cur.toList.take (L.length * 1))[i]? = (L.map fi)[i]? := by rw [htake]
  rw [List.getElem?_take_of_lt (by omega),List.getElem?_map,List.getElem?_eq_getElem hi] at h1
  rw [Nat.zero_add,← Array.getElem?_toList,h1];rfl
theorem below_row {B:Nat} {w0 w:World} {g off q:Nat} {d:Array Int} (h:RowKit.Below B w0 w) (hg:B≤g):RowKit.Below B w0 (putRow (Value.int .i64) (Sort.ahead w q) g off d) :=
 ⟨h.os,h.tape,h.output,by simpa [putRow,mapBlock,Sort.ahead] using h.size,fun k hk=>by
  rw [← h.block k hk]
  simp [putRow,mapBlock,Sort.ahead,Array.getElem?_modify,show g≠k by omega]⟩
theorem typ_row {w:World} {g off cap q:Nat} {L:List Int} {d:Array Int} (h:Seg w g off cap L):∃cs fr,(putRow (Value.int .i64) (Sort.ahead w q) g off d).heap[g]? = some (.cells cs 3 fr):=by
 obtain ⟨cs,h1,-⟩:=h
 exact ⟨putCells (Value.int .i64) off d cs,(0,0),by simp [putRow,mapBlock,Sort.ahead,Array.getElem?_modify,h1,onCells]⟩
theorem Seg.lt {w:World} {g off cap:Nat} {L:List Int} (h:Seg w g off cap L):g < w.heap.size:=by
 obtain ⟨cs,h1,-⟩:=h
 exact heap_lt h1
theorem blank_not:(fun x=>!blankP x)=(fun c:Int=>c != 9&&c != 10&&c != 13):=by
 funext x;unfold blankP;simp [bne,Bool.not_or]
theorem rev_split (M:List Int):M=[]∨∃r x,M=r++[x]:=by
 rcases List.eq_nil_or_concat M with h | ⟨r,x,h⟩
 ·exact .inl h
 ·exact .inr ⟨r,x,by rw [h];simp⟩
theorem dw_rev {M N:List Int} (h:¬ ∃r x,M=r++[x]∧x≤32) (e:M.reverse.dropWhile lowP=N.reverse.dropWhile lowP):M=(N.reverse.dropWhile lowP).reverse:=by
 rcases rev_split M with rfl | ⟨r,x,rfl⟩
 ·rw [← e];rfl
 ·rw [← e,List.reverse_append,List.reverse_singleton,List.singleton_append,dw_no (fun hx=>h ⟨r,x,rfl,hx⟩)];simp
theorem del_post {w wr:World} {g off c:Nat} {L L' M:List Int} (hb:RowKit.Below w.heap.size w wr) (hg:w.heap.size≤g) (hs:Seg wr g off c M) (h1:L'=L.dropWhile lowP) (h2:M=(L'.reverse.dropWhile lowP).reverse) :
 Calls Tryz.prog 66 #[.slice (some ⟨g,off,none⟩) M.length c,.func (.func 67) #[] #[]] wr fun e w' =>
  ∃v,e=.returned v∧(TRow fi 3 w' v ((((L.dropWhile (fun c=>decide (c≤32))).reverse.dropWhile (fun c=>decide (c≤32))).reverse).filter (fun c=>c != 9&&c != 10&&c != 13))∧∀k,v.ownBlock=some k→w.heap.size≤k)∧RowKit.Below w.heap.size w w':=by
 have e1:((L.dropWhile (fun c=>decide (c≤32))).reverse.dropWhile (fun c=>decide (c≤32))).reverse=M:=by rw [h2,h1];rfl
 rw [e1,← blank_not]
 have hc:=hs
 obtain ⟨cs,q1,q2,q3,q4⟩:=hs
 refine (del_calls g off c M wr hc.lt (fun i hi=>hc.cell i hi) q2 q3).mono ?_
 rintro e w1 ⟨⟨v,rfl,hv,hrow⟩,q,D,rfl⟩
 subst hv
 exact ⟨_,rfl,⟨⟨hrow,fun k hk=>by cases hk;exact typ_row hc⟩,fun k hk=>by cases hk;exact hg⟩,below_row hb hg⟩
theorem idx_nil (w:World):Calls Tryz.prog 87 #[.slice none 0 0,.func (.func 67) #[] #[]] w fun e w'=>e=.returned (.int .i64 (-1))∧RowKit.Below w.heap.size w w':=by
 have HB:=hid (Below.refl w.heap.size w)
 go_enter Tryz.func87,Tryz.ntmps87
 go_wp2
 go_loopw [8] (fun v wr=>v=.int .i64 0∧wr=w) (fun v _=>0)
 case atStart=>exact ⟨rfl,rfl⟩
 case round =>
  obtain ⟨rfl,rfl⟩:=hrel
  go_wp2_with fail
  go_ret
  exact ⟨rfl,HB.out⟩
theorem del_nil (w:World):Calls Tryz.prog 66 #[.slice none 0 0,.func (.func 67) #[] #[]] w fun e w'=>e=.returned (.slice none 0 0)∧RowKit.Below w.heap.size w w':=by
 go_enter Tryz.func66,Tryz.ntmps66
 go_wp2_with fail
 refine (idx_nil _).mono ?_
 rintro e w1 ⟨rfl,hb⟩
 go_wp2_with fail
 go_ret
 exact ⟨rfl,hb⟩
def lenV:Value→Nat | .slice _ n _=>n | _=>0
theorem signs_calls (s:ByteArray) (w:World) (hs:s.size≤4000) :
 Calls Tryz.prog 50 #[.string s] w fun e w'=>(∃v,e=.returned v∧TRow fi 3 w' v (stripRU s.data.toList)∧∀k,v.ownBlock=some k→w.heap.size≤k)∧Below w.heap.size w w':=by
 have hcv:=Lib.run_convert_string_bytes (P:=Tryz.prog) w 9 73 5 s Tryz.underlying9 Tryz.underlying73 Tryz.underlying5
 have HRow:=hid (str_row w s (by omega))
 have HSW:=hid (str_world w s)
 have HSz:Hid (w.heap.size≤(Lib.bytesWorld w 5 s).heap.size):=HSW.out.size
 have HL:=hid (fun v w hv=>lossy_calls v s.data.toList w hv (by rw [bytes_num];omega))
 have HLL:=hid (lossy_all _ s.data.toList (Nat.le_refl _)).2
 have HN:=hid (bytes_num s)
 have s1:(s.size:Int)≤4000:=by omega
 unfold stripRU
 generalize Lib.bytesWorld w 5 s=wb at *
 generalize grownCap w s.size 0 5=cap at *
 obtain ⟨L,hL⟩:∃L,lossyL s.data.toList=L:=⟨_,rfl⟩
 rw [hL] at HL HLL ⊢
 have HS:=hid hs
 clear hs hL
 go_enter Tryz.func50,Tryz.ntmps50
 go_wp2_with fail
 refine (HL.out _ _ HRow.out).mono ?_
 rintro e w1 ⟨⟨v1,rfl,hv1⟩,hb1⟩
 rcases hv1.2 with ⟨rfl,hn⟩ | ⟨g,cp,cur,rfl,hb,hg,hnc,hcm,hcs,htake⟩
 ·have e0:L=[]:=List.eq_nil_of_length_eq_zero hn
  subst e0
  have HB1:=hid (below_trans HSW.out hb1)
  clear hv1 hb1 hn HL HRow hcv
  go_wp2
  go_loopw [3] (fun v wr=>v=.slice none 0 0∧RowKit.Below w.heap.size w wr) (fun v _=>0)
  case atStart=>exact ⟨rfl,HB1.out⟩
  case round =>
   obtain ⟨rfl,hbw⟩:=hrel
   have HB2:=hid hbw
   clear hbw
   go_wp2
   generalize wr=wx at *
   go_loopw [3] (fun v wr=>v=.slice none 0 0∧RowKit.Below w.heap.size w wr) (fun v _=>0)
   case atStart=>exact ⟨rfl,HB2.out⟩
   case round =>
    obtain ⟨rfl,hbw⟩:=hrel
    have HB3:=hid hbw
    clear hbw
    go_wp2_with fail
    refine (del_nil _).mono ?_
    rintro e w2 ⟨rfl,hb⟩
    have HB4:=hid (below_trans HB3.out hb)
    clear hb
    go_wp2_with fail
    go_ret
    exact ⟨⟨_,rfl,⟨Row.nil fi _,fun k hk=>by cases hk⟩,fun k hk=>by cases hk⟩,HB4.out⟩
 ·have HSg:=hid (seg_of hv1)
  have HB1:=hid (below_trans HSW.out hb1)
  have HBg:=hid hb
  clear hv1 hb1 htake hcs hg hb hnc hcm HL HRow hcv
  go_wp2
  go_loopw [3] (fun v wr=>∃off c L',v=.slice (some ⟨g,off,none⟩) L'.length c∧Seg wr g off c L'∧L'.dropWhile lowP=L.dropWhile lowP∧L'.length≤4000∧RowKit.Below w.heap.size w wr) (fun v _=>lenV v)
  case atStart=>exact ⟨0,cp,L,rfl,HSg.out,rfl,by have:=HLL.out;have:=HN.out;have:=HS.out;omega,HB1.out⟩
  case round =>
   obtain ⟨off,c,L',rfl,hsg,hdw,hln,hbw⟩:=hrel
   by_cases hlow:∃x r,L'=x::r∧x≤32
   ·obtain ⟨x,r,rfl,hx⟩:=hlow
    have h0:decide ((0:Int) < (((x::r).length:Nat):Int))=true:=decide_eq_true (by rw [List.length_cons];omega)
    have hc0:=(hsg.cell 0 (by rw [List.length_cons];omega)).1
    have hx1:decide (x≤32)=true:=decide_eq_true hx
    have hn0:(((x::r).length:Nat):Int)=(r.length:Int)+1:=by rw [List.length_cons];omega
    have HSG:=hid hsg
    have HDW:=hid hdw
    have HLN:=hid hln
    have HBW:=hid hbw
    rw [Nat.add_zero] at hc0
    clear hsg hdw hln hbw
    go_wp2_with fail
    go_roundw
    case rel=>exact ⟨if c=1 then off else off+1,c-1,r,by split<;>rfl,HSG.out.tailC,by rw [← HDW.out,dw_yes hx],by have:=HLN.out;rw [List.length_cons] at this;omega,HBW.out⟩
    case measure=>simp [lenV]
   ·have HD:Hid (L'=L.dropWhile lowP):=dw_stop hlow hdw
    have HSG:=hid hsg
    have HLN:=hid hln
    have HBW:=hid hbw
    have hwalk:(L'.length=0)∨(0 < L'.length∧decide ((0:Int) < ((L'.length:Nat):Int))=true∧∃x,wr.cell? ⟨g,off,none⟩=some (.int .i64 x)∧decide (x≤32)=false):=by
     cases L' with
     | nil=>exact .inl rfl
     | cons x r =>
       have hc0:=(hsg.cell 0 (by rw [List.length_cons];omega)).1
       exact .inr ⟨by rw [List.length_cons];omega,decide_eq_true (by rw [List.length_cons];omega),x,hc0,decide_eq_false (fun h=>hlow ⟨x,r,rfl,h⟩)⟩
    clear hsg hdw hln hbw hlow
    obtain ⟨n,hn⟩:∃n,L'.length=n:=⟨_,rfl⟩
    rw [hn] at hwalk ⊢
    have HNn:=hid hn
    clear hn
    rcases hwalk with h0 | ⟨hp,h0,x,hc0,hx⟩
    ·rw [h0] at HNn ⊢
     go_wp2_with fail
     generalize wr=wx at *
     go_loopw [3] (fun v wr=>∃M,v=.slice (some ⟨g,off,none⟩) M.length c∧Seg wr g off c M∧M.reverse.dropWhile lowP=L'.reverse.dropWhile lowP∧M.length≤4000∧RowKit.Below w.heap.size w wr) (fun v _=>lenV v)
     case atStart=>exact ⟨L',by rw [HNn.out],HSG.out,rfl,HLN.out,HBW.out⟩
     case round =>
      obtain ⟨M,rfl,hsg,hdw,hln,hbw⟩:=hrel
      clear h0
      try clear hp hc0 hx
      by_cases hlow:∃r x,M=r++[x]∧x≤32
      ·obtain ⟨r,x,rfl,hx⟩:=hlow
       have e1:(r++[x]).length=r.length+1:=by rw [List.length_append,List.length_singleton]
       have hc1:=(hsg.cell r.length (by rw [e1];omega)).1
       rw [List.getElem_append_right (Nat.le_refl _)] at hc1
       have hc0:wr.cell? ⟨g,off+r.length,none⟩=some (.int .i64 x):=by rw [hc1];simp
       have HS2:=hid hsg.init
       have HDW:=hid hdw
       have HLN2:=hid hln
       have HBW2:=hid hbw
       have hx1:decide (x≤32)=true:=decide_eq_true hx
       rw [e1] at hln ⊢
       have hr1:(r.length:Int)≤4000:=by omega
       have hrc:r.length≤c:=by obtain ⟨cs,q1,q2,q3,q4⟩:=HS2.out;exact q2
       obtain ⟨m,hm⟩:∃m,r.length=m:=⟨_,rfl⟩
       rw [hm] at hc0 hr1 hrc ⊢
       have HM:=hid hm
       clear hc1 hsg hdw hln hbw hm e1
       go_wp2_with fail
       go_roundw
       case rel=>exact ⟨r,by rw [HM.out],HS2.out,by rw [← HDW.out,List.reverse_append,List.reverse_singleton,List.singleton_append,dw_yes hx],by have:=HLN2.out;rw [List.length_append,List.length_singleton] at this;omega,HBW2.out⟩
       case measure=>simp [lenV]
      ·have HP:=hid (del_post hbw (Nat.le_trans HSz.out HBg.out) hsg HD.out (dw_rev hlow hdw))
       have hwalk:(M.length=0)∨∃m x,M.length=m+1∧(m:Int)≤4000∧wr.cell? ⟨g,off+m,none⟩=some (.int .i64 x)∧decide (x≤32)=false:=by
        rcases rev_split M with rfl | ⟨r,x,rfl⟩
        ·exact .inl rfl
        ·have e1:(r++[x]).length=r.length+1:=by rw [List.length_append,List.length_singleton]
         have hc1:=(hsg.cell r.length (by rw [e1];omega)).1
         rw [List.getElem_append_right (Nat.le_refl _)] at hc1
         exact .inr ⟨r.length,x,e1,by omega,by rw [hc1];simp,decide_eq_false (fun h=>hlow ⟨r,x,rfl,h⟩)⟩
       clear hsg hdw hln hbw hlow
       rcases hwalk with hm | ⟨m,x,hm,hm1,hc0,hx⟩
       ·rw [hm] at HP ⊢
        go_wp2_with fail
        refine HP.out.mono ?_
        rintro e w2 ⟨v,rfl,hq⟩
        go_wp2_with fail
        go_ret
        exact ⟨⟨_,rfl,hq.1⟩,hq.2⟩
       ·rw [hm] at HP ⊢
        go_wp2_with fail
        refine HP.out.mono ?_
        rintro e w2 ⟨v,rfl,hq⟩
        go_wp2_with fail
        go_ret
        exact ⟨⟨_,rfl,hq.1⟩,hq.2⟩
    ·go_wp2_with fail
     generalize wr=wx at *
     go_loopw [3] (fun v wr=>∃M,v=.slice (some ⟨g,off,none⟩) M.length c∧Seg wr g off c M∧M.reverse.dropWhile lowP=L'.reverse.dropWhile lowP∧M.length≤4000∧RowKit.Below w.heap.size w wr) (fun v _=>lenV v)
     case atStart=>exact ⟨L',by rw [HNn.out],HSG.out,rfl,HLN.out,HBW.out⟩
     case round =>
      obtain ⟨M,rfl,hsg,hdw,hln,hbw⟩:=hrel
      clear h0
      try clear hp hc0 hx
      by_cases hlow:∃r x,M=r++[x]∧x≤32
      ·obtain ⟨r,x,rfl,hx⟩:=hlow
       have e1:(r++[x]).length=r.length+1:=by rw [List.length_append,List.length_singleton]
       have hc1:=(hsg.cell r.length (by rw [e1];omega)).1
       rw [List.getElem_append_right (Nat.le_refl _)] at hc1
       have hc0:wr.cell? ⟨g,off+r.length,none⟩=some (.int .i64 x):=by rw [hc1];simp
       have HS2:=hid hsg.init
       have HDW:=hid hdw
       have HLN2:=hid hln
       have HBW2:=hid hbw
       have hx1:decide (x≤32)=true:=decide_eq_true hx
       rw [e1] at hln ⊢
       have hr1:(r.length:Int)≤4000:=by omega
       have hrc:r.length≤c:=by obtain ⟨cs,q1,q2,q3,q4⟩:=HS2.out;exact q2
       obtain ⟨m,hm⟩:∃m,r.length=m:=⟨_,rfl⟩
       rw [hm] at hc0 hr1 hrc ⊢
       have HM:=hid hm
       clear hc1 hsg hdw hln hbw hm e1
       go_wp2_with fail
       go_roundw
       case rel=>exact ⟨r,by rw [HM.out],HS2.out,by rw [← HDW.out,List.reverse_append,List.reverse_singleton,List.singleton_append,dw_yes hx],by have:=HLN2.out;rw [List.length_append,List.length_singleton] at this;omega,HBW2.out⟩
       case measure=>simp [lenV]
      ·have HP:=hid (del_post hbw (Nat.le_trans HSz.out HBg.out) hsg HD.out (dw_rev hlow hdw))
       have hwalk:(M.length=0)∨∃m x,M.length=m+1∧(m:Int)≤4000∧wr.cell? ⟨g,off+m,none⟩=some (.int .i64 x)∧decide (x≤32)=false:=by
        rcases rev_split M with rfl | ⟨r,x,rfl⟩
        ·exact .inl rfl
        ·have e1:(r++[x]).length=r.length+1:=by rw [List.length_append,List.length_singleton]
         have hc1:=(hsg.cell r.length (by rw [e1];omega)).1
         rw [List.getElem_append_right (Nat.le_refl _)] at hc1
         exact .inr ⟨r.length,x,e1,by omega,by rw [hc1];simp,decide_eq_false (fun h=>hlow ⟨r,x,rfl,h⟩)⟩
       clear hsg hdw hln hbw hlow
       rcases hwalk with hm | ⟨m,x,hm,hm1,hc0,hx⟩
       ·rw [hm] at HP ⊢
        go_wp2_with fail
        refine HP.out.mono ?_
        rintro e w2 ⟨v,rfl,hq⟩
        go_wp2_with fail
        go_ret
        exact ⟨⟨_,rfl,hq.1⟩,hq.2⟩
       ·rw [hm] at HP ⊢
        go_wp2_with fail
        refine HP.out.mono ?_
        rintro e w2 ⟨v,rfl,hq⟩
        go_wp2_with fail
        go_ret
        exact ⟨⟨_,rfl,hq.1⟩,hq.2⟩
end Go.Proofs.YtigfgloenjoeoaaGreatDoor
namespace Go.Proofs.YtigfgloenjoeoaaGreatDoor
theorem rall_nil (e:UInt8):Lib.replaceAll [] [37,50,e] [46]=[]:=by
 unfold Lib.replaceAll Lib.replace
 rw [if_neg (by simp)]
 have:Lib.replaceNum [] [37,50,e] (-1)=0:=by
  unfold Lib.replaceNum
  rw [if_pos (Or.inl (by omega))]
  exact Lib.count_miss rfl
 rw [this];rfl
theorem rall_eq (e:UInt8) (s:List UInt8):Lib.replaceAll s [37,50,e] [46]=Lib.replaceK [37,50,e] [46] (Lib.count s [37,50,e]) s:=by
 unfold Lib.replaceAll Lib.replace
 rw [if_neg (by simp)]
 unfold Lib.replaceNum
 rw [if_pos (Or.inl (by omega))]
theorem rall_hit (e:UInt8) (t:List UInt8):Lib.replaceAll (37::50::e::t) [37,50,e] [46]=46::Lib.replaceAll t [37,50,e] [46]:=by
 have hi:Lib.index (37::50::e::t) [37,50,e]=((0:Nat):Int):=by simp [Lib.index,List.isPrefixOf]
 rw [rall_eq,rall_eq,Lib.count_hit (by simp) hi,Nat.add_comm,Lib.replaceK_hit _ _ _ _ 0 hi]
 rfl
theorem rall_miss (e c:UInt8) (t:List UInt8) (h:([37,50,e]:List UInt8).isPrefixOf (c::t)=false):Lib.replaceAll (c::t) [37,50,e] [46]=c::Lib.replaceAll t [37,50,e] [46]:=by
 rw [rall_eq,rall_eq]
 by_cases hm:Lib.index t [37,50,e]=-1
 ·have h1:Lib.index (c::t) [37,50,e]=-1:=by rw [Lib.index,h];simp [hm]
  rw [Lib.count_miss h1,Lib.count_miss hm];rfl
 ·have hge:=Lib.index_ge t [37,50,e]
  obtain ⟨i,hi⟩:∃i:Nat,Lib.index t [37,50,e]=(i:Int):=⟨(Lib.index t [37,50,e]).toNat,by omega⟩
  have h1:Lib.index (c::t) [37,50,e]=((i+1:Nat):Int):=by
   rw [Lib.index,h]
   simp only [Bool.false_eq_true,if_false]
   rw [if_neg (by simpa using hm),hi];rfl
  have e3:([37,50,e]:List UInt8).length=3:=rfl
  rw [Lib.count_hit (by simp) h1,Lib.count_hit (by simp) hi,e3,show i+1+3=(i+3)+1 by omega,List.drop_succ_cons,Nat.add_comm 1,Lib.replaceK_hit _ _ _ _ (i+1) h1,Lib.replaceK_hit _ _ _ _ i hi,e3,show i+1+3=(i+3)+1 by omega,List.drop_succ_cons,List.take_succ_cons]
  rfl
theorem pre_head {e c:UInt8} {t:List UInt8} (h:c≠37):([37,50,e]:List UInt8).isPrefixOf (c::t)=false:=by
 simp [List.isPrefixOf];intro h2;exact absurd h2.symm h
theorem pd_nil:pdR []=[]:=by unfold pdR;rw [rall_nil,rall_nil]
theorem pd_dot (t:List UInt8):pdR (46::t)=46::pdR t:=by unfold pdR;rw [rall_miss _ _ _ (pre_head (by decide)),rall_miss _ _ _ (pre_head (by decide))]
theorem pd_small (t:List UInt8):pdR (37::50::101::t)=46::pdR t:=by unfold pdR;rw [rall_hit,rall_miss _ _ _ (pre_head (by decide))]
theorem pd_great (t:List UInt8):pdR (37::50::69::t)=46::pdR t:=by
 unfold pdR
 rw [rall_miss 101 37 _ (by simp [List.isPrefixOf]),rall_miss 101 50 _ (pre_head (by decide)),rall_miss 101 69 _ (pre_head (by decide)),rall_hit]
theorem rall_front {c d:UInt8} {t r:List UInt8} (h:Lib.replaceAll (c::t) [37,50,101] [46]=d::r) (hd:d≠46):c=d∧r=Lib.replaceAll t [37,50,101] [46]:=by
 cases hp:([37,50,101]:List UInt8).isPrefixOf (c::t) with
 | false=>rw [rall_miss _ _ _ hp] at h;injection h with h1 h2;exact ⟨h1,h2.symm⟩
 | true =>
   obtain ⟨q,hq⟩:=List.isPrefixOf_iff_prefix.1 hp
   rw [← hq] at h
   have:=rall_hit 101 q
   simp only [List.cons_append,List.nil_append] at h
   rw [this] at h
   injection h with h1 h2
   exact absurd h1.symm hd
theorem pd_other (c:UInt8) (t:List UInt8) (h1:c≠46) (h2:∀q,c::t≠37::50::101::q) (h3:∀q,c::t≠37::50::69::q):∃r,pdR (c::t)=c::r:=by
 have hp:([37,50,101]:List UInt8).isPrefixOf (c::t)=false:=by
  cases hp:([37,50,101]:List UInt8).isPrefixOf (c::t) with
  | false=>rfl
  | true=>obtain ⟨q,hq⟩:=List.isPrefixOf_iff_prefix.1 hp;exact absurd hq.symm (h2 q)
 unfold pdR
 rw [rall_miss _ _ _ hp]
 refine ⟨_,rall_miss _ _ _ ?_⟩
 cases hp2:([37,50,69]:List UInt8).isPrefixOf (c::Lib.replaceAll t [37,50,101] [46]) with
 | false=>rfl
 | true =>
   obtain ⟨q,hq⟩:=List.isPrefixOf_iff_prefix.1 hp2
   simp only [List.cons_append,List.nil_append] at hq
   injection hq with e1 e2
   subst e1
   cases t with
   | nil=>rw [rall_nil] at e2;cases e2
   | cons d t =>
     obtain ⟨rfl,e3⟩:=rall_front e2.symm (by decide)
     cases t with
     | nil=>rw [rall_nil] at e3;cases e3
     | cons d t =>
       obtain ⟨rfl,e4⟩:=rall_front e3.symm (by decide)
       exact absurd rfl (h3 t)
theorem dots_pd:∀(n:Nat) (s:List UInt8),s.length≤n→∀(f k:Nat),s.length≤f→((∃j,pdR s=List.replicate j 46∧dotsF f s k=k+j)∨((∃c∈pdR s,c≠46)∧dotsF f s k=0))
 | 0,s,hn,f,k,hf=>by
   have:s=[]:=List.eq_nil_of_length_eq_zero (by omega)
   subst this
   exact Or.inl ⟨0,pd_nil,by cases f<;>rfl⟩
 | n+1,s,hn,f,k,hf=>by
   have step:∀(t:List UInt8) (g:Nat),t.length≤n→t.length≤g→pdR s=46::pdR t→dotsF f s k=dotsF g t (k+1)→((∃j,pdR s=List.replicate j 46∧dotsF f s k=k+j)∨((∃c∈pdR s,c≠46)∧dotsF f s k=0)):=fun t g h1 h2 h3 h4=>by
    rcases dots_pd n t h1 g (k+1) h2 with ⟨j,e1,e2⟩ | ⟨⟨c,hc,hne⟩,e2⟩
    ·exact Or.inl ⟨j+1,by rw [h3,e1];rfl,by rw [h4,e2];omega⟩
    ·exact Or.inr ⟨⟨c,by rw [h3];exact List.mem_cons_of_mem _ hc,hne⟩,by rw [h4,e2]⟩
   cases s with
   | nil=>exact Or.inl ⟨0,pd_nil,by cases f<;>rfl⟩
   | cons c t =>
     obtain ⟨g,rfl⟩:∃g,f=g+1:=⟨f-1,by simp at hf;omega⟩
     simp only [List.length_cons] at hn hf
     by_cases h1:c=46
     ·subst h1
      exact step t g (by omega) (by omega) (pd_dot t) rfl
     by_cases h2:∃q,c::t=37::50::101::q
     ·obtain ⟨q,hq⟩:=h2
      injection hq with e1 e2
      subst e1 e2
      simp only [List.length_cons] at hn hf
      exact step q g (by omega) (by omega) (pd_small q) rfl
     by_cases h3:∃q,c::t=37::50::69::q
     ·obtain ⟨q,hq⟩:=h3
      injection hq with e1 e2
      subst e1 e2
      simp only [List.length_cons] at hn hf
      exact step q g (by omega) (by omega) (pd_great q) rfl
     ·obtain ⟨r,hr⟩:=pd_other c t h1 (fun q hq=>h2 ⟨q,hq⟩) (fun q hq=>h3 ⟨q,hq⟩)
      refine Or.inr ⟨⟨c,by rw [hr];simp,h1⟩,?_⟩
      unfold dotsF
      split
      ·rename_i heq;simp at heq
      ·rename_i heq;simp at heq
      ·rename_i heq;injection heq with e1 e2;exact absurd e1 h1
      ·rename_i heq
       split
       ·rename_i he
        rcases he with he | he
        ·subst he;exact absurd ⟨_,heq⟩ h2
        ·subst he;exact absurd ⟨_,heq⟩ h3
       ·rfl
      ·rfl
theorem rep_two {j:Nat} (h:List.replicate j (46:UInt8)=[46,46]):j=2:=by have:=congrArg List.length h;simpa using this
theorem rep_one {j:Nat} (h:List.replicate j (46:UInt8)=[46]):j=1:=by have:=congrArg List.length h;simpa using this
theorem dots_two (s:List UInt8):pdR s=[46,46]↔dotsR s=2:=by
 unfold dotsR
 rcases dots_pd s.length s (Nat.le_refl _) s.length 0 (Nat.le_refl _) with ⟨j,e1,e2⟩ | ⟨⟨c,hc,hne⟩,e2⟩
 ·rw [e1,e2,Nat.zero_add]
  constructor
  ·intro h;rw [rep_two h];rfl
  ·intro h
   split at h
   ·omega
   ·subst h;rfl
 ·rw [e2]
  constructor
  ·intro h;rw [h] at hc;simp at hc;exact absurd hc hne
  ·intro h;simp at h
theorem dots_one (s:List UInt8):pdR s=[46]↔dotsR s=1:=by
 unfold dotsR
 rcases dots_pd s.length s (Nat.le_refl _) s.length 0 (Nat.le_refl _) with ⟨j,e1,e2⟩ | ⟨⟨c,hc,hne⟩,e2⟩
 ·rw [e1,e2,Nat.zero_add]
  constructor
  ·intro h;rw [rep_one h];rfl
  ·intro h
   split at h
   ·omega
   ·subst h;rfl
 ·rw [e2]
  constructor
  ·intro h;rw [h] at hc;simp at hc;exact absurd hc hne
  ·intro h;simp at h
theorem piece_eq (m:MaR) (c:Int):pieceQ (takeM m) (encU 5 m.buf) (slashM m c)=pieceM m c:=by
 unfold pieceQ pieceM
 have e:encU 5 m.buf=partsN 5 m.buf:=(parts_eq 5 m.buf).symm
 rw [e]
 simp only [dots_two,dots_one]
 rfl
theorem pathQ_eq (x:RdP) (c:Int):pathQ x c=pathP x c:=by
 unfold pathQ pathP
 have e:(x.on fun m=>pieceQ (takeM m) (encU 5 x.m.buf) (slashM x.m c))=x.on (pieceM · c):=by
  show ({ x with m:=pieceQ (takeM x.m) (encU 5 x.m.buf) (slashM x.m c) }:RdP)={ x with m:=pieceM x.m c }
  rw [piece_eq]
 rw [e]
end Go.Proofs.YtigfgloenjoeoaaGreatDoor
namespace Go.Proofs.YtigfgloenjoeoaaGreatDoor
open Go.RowKit Go.Shelf
def x0 (b:UrlN) (has:Bool):RdP:=⟨⟨[],0,url0,b,has,[],false,false,false⟩,[],[]⟩
def x1 (l:List UInt8) (b:UrlN) (has:Bool):RdP:=⟨maR l b has,[],[]⟩
theorem run_begin (l:List UInt8) (b:UrlN) (has:Bool) (h:l.length≤4000):RunI (x1 l b has) (maR l b has) 0 (stripRU l) b (urlR l b has):=by
 refine ⟨by decide,?_,?_,⟨Nat.zero_le _,fun _=>rfl⟩,fun _=>Nat.zero_le _,?_,rfl,rfl⟩
 ·unfold Sim;rw [if_pos (by decide)]
  refine ⟨rfl,rfl,rfl,?_,fun _=>rfl⟩
  exact ⟨[],rfl⟩
 ·exact ⟨Nat.zero_le _,fun _=>Nat.zero_le _,fun h=>absurd h (by decide)⟩
 ·unfold urlR;rw [if_neg (by omega)]
  unfold ans
  refine congrArg (fun n=>runF n (maR l b has) 0) ?_
  show (17-0) * ((stripRU l).length+1)+((stripRU l).length-0)+1=18 * ((stripRU l).length+1)
  omega
theorem strip_len (l:List UInt8):(stripRU l).length≤l.length:=by
 unfold stripRU
 refine Nat.le_trans (List.length_filter_le _ _) ?_
 rw [List.length_reverse]
 refine Nat.le_trans (List.dropWhile_sublist _).length_le ?_
 rw [List.length_reverse]
 exact Nat.le_trans (List.dropWhile_sublist _).length_le (lossy_all _ l (Nat.le_refl _)).2
theorem strip_pos (l:List UInt8):∀c∈stripRU l,0≤c:=by
 intro c hc
 unfold stripRU at hc
 have h1:=(List.mem_filter.1 hc).1
 have h2:=(List.dropWhile_sublist _).mem (List.mem_reverse.1 h1)
 have h3:=(List.dropWhile_sublist _).mem (List.mem_reverse.1 h2)
 have:=List.all_eq_true.1 (lossy_all _ l (Nat.le_refl _)).1 c h3
 have h4:=this
 unfold isS at h4
 simp only [Bool.and_eq_true,Bool.or_eq_true,decide_eq_true_eq] at h4
 omega
theorem rd_begin {w w':World} {B G:Nat} {b:UrlN} {has:Bool} {bpv v:Value} {l:List UInt8} (T:TB B w') (hG:B≤G) (hc:Bc RT w' G (rdC (x0 b has) (.slice none 0 0) bpv (.slice none 0 0) (.slice none 0 0) (.slice none 0 0) (.slice none 0 0))) (hp:PathO w' B bpv b.path) (ht:TRow fi 3 w' v (stripRU l)) :
 Rd (0≤5) ((w'.setCell ⟨G,0,none⟩ v).setCell ⟨G,41,none⟩ (.int .i64 (-1))) B G (x1 l b has) v bpv (.slice none 0 0) (.slice none 0 0) (.slice none 0 0) (.slice none 0 0):=by
 have h0:Rws (0≤5) w' B (x1 l b has) v bpv (.slice none 0 0) (.slice none 0 0) (.slice none 0 0) (.slice none 0 0) :=
  ⟨ht,Own.nil _ _ _ _,Own.nil _ _ _ _,Own.nil _ _ _ _,Own.nil _ _ _ _,(ap_nil v).symm,(ap_nil v).symm,(ap_nil v).symm,ap_nil _,ap_nil _,ap_nil _,fun _=>⟨rfl,hp⟩⟩
 have c1:=hc.set 0 v
 refine ⟨hG,c1.set 41 _,(h0.set hc 0 v).set c1 41 _,(T.below (setB w' hG 0 v)).below (setB _ hG 41 _)⟩
def ReadU (B:Nat) (A:UrlN×Nat) (w:World) (e:Ending) (w':World):Prop :=
 (∃upv,e=.returned (.tuple #[.agg (urlC A.1 upv).toArray,.int .i64 (A.2:Int)])∧PathO w' B upv A.1.path)∧Below B w w'
structure Beg (w w2:World) (r0:Array Value) (G R:Nat):Prop where
 g:G=w.heap.size
 r:R=w.heap.size+1
 gc:w2.heap[G]? = some (.cells r0 RT)
 rc:Bc UT w2 R (urlC url0 (.slice none 0 0))
 bel:Below w.heap.size w w2
theorem beg (w:World) (r0:Array Value):Beg w ((w.alloc (.cells r0 RT)).alloc (.cells #[.string ⟨#[]⟩,.string ⟨#[]⟩,.string ⟨#[]⟩,.bool false,.int .i64 0,.string ⟨#[]⟩,.int .u32 0,.int .u16 0,.int .u16 0,.int .u16 0,.int .u16 0,.int .u16 0,.int .u16 0,.int .u16 0,.int .u16 0,.int .i64 0,.bool false,.string ⟨#[]⟩,.slice none 0 0,.bool false,.string ⟨#[]⟩,.bool false,.string ⟨#[]⟩] UT)) r0 w.heap.size (w.heap.size+1) :=
 have e1:(w.alloc (.cells r0 RT)).heap.size=w.heap.size+1:=by simp
 have h1:∀o,Below (w.heap.size+1) (w.alloc (.cells r0 RT)) ((w.alloc (.cells r0 RT)).alloc o):=fun o=>(Below.refl _ _).alloc (Nat.le_of_eq e1.symm) o
 ⟨rfl,rfl,((h1 _).block _ (Nat.lt_succ_self _)).trans (heap_alloc_new w _),by
  have:=heap_alloc_new (w.alloc (.cells r0 RT)) (.cells (urlC url0 (.slice none 0 0)).toArray UT)
  rw [e1] at this;exact this,
  ((Below.refl _ _).alloc (Nat.le_refl _) _).trans ((h1 _).mono (Nat.le_succ _))⟩
theorem url_sets {w2:World} {R:Nat}:∀(l:List (Nat×Value)) (w2:World) (xs:List Value),Bc UT w2 R xs→Bc UT (sets R l w2) R (l.foldl (fun xs p=>xs.set p.1 p.2) xs)
 | [],_,_,h=>h
 | p::l,w2,xs,h=>url_sets (w2:=w2) l _ _ (h.set p.1 p.2)
theorem url_below {B R:Nat} (hB:B≤R):∀(l:List (Nat×Value)) (w2:World),Below B w2 (sets R l w2)
 | [],w2=>Below.refl _ _
 | p::l,w2=>(setB w2 hB p.1 p.2).trans (url_below hB l _)
theorem url_store {w2:World} {B R:Nat} {u v:UrlN} {pu pv:Value} (h:Bc UT w2 R (urlC u pu)) (hB:B≤R):Bc UT (w2.setCells R 0 (urlC v pv)) R (urlC v pv)∧Below B w2 (w2.setCells R 0 (urlC v pv)):=by
 rw [setCells_sets]
 refine ⟨?_,url_below hB _ _⟩
 have:=url_sets (w2:=w2) (((urlC v pv).zipIdx 0).map fun p=>(p.2,p.1)) w2 _ h
 rw [foldl_zip _ _ _ (by show 0+23≤23;decide)] at this
 exact this
theorem url_there {w2:World} {R:Nat} {u:UrlN} {pv:Value} (h:Bc UT w2 R (urlC u pv)):w2.there R 0 23:=fun j hj=>by
 obtain ⟨v,hv⟩:∃v,(urlC u pv)[j]? = some v:=⟨_,List.getElem?_eq_getElem (by show j < 23;exact hj)⟩
 have:=h.cell j hv
 rw [Nat.zero_add]
 exact ⟨by rw [this.1];rfl,this.2⟩
theorem url_range {w:World} {R:Nat} {u:UrlN} {pv:Value} (h:Bc UT w R (urlC u pv)):w.rangeAt R 0 (urlC u pv):=fun j v hv=>by rw [Nat.zero_add];exact (h.cell j hv).1
theorem url_load {w:World} {R:Nat} {u:UrlN} {pv:Value} (h:Bc UT w R (urlC u pv)):(loadVar UT ⟨R,0,none⟩).run Tryz.prog w=.ok (.agg (urlC u pv).toArray) w :=
 run_loadVar_mid w R 0 UT (urlC u pv) _ (url_range h) Tryz.underlying29 rfl info_url
theorem uread_long (s:ByteArray) {b:UrlN} {has:Bool} {w:World} {B:Nat} (r0:Array Value) (hB:B≤w.heap.size) (h:4000 < s.size) :
 Calls Tryz.prog 37 #[.string s,.agg r0] w fun e w'=>ReadU B (urlR s.data.toList b has) w e w':=by
 have HX:Hid (urlR s.data.toList b has=(url0,3)):=by show _=_;unfold urlR;rw [if_pos (by rw [bytes_num];exact h)]
 have h4:decide ((4000:Int) < (s.size:Int))=true:=decide_eq_true (by omega)
 have hi:(4000:Int) < (s.size:Int):=by omega
 have HB:=hid hB
 clear h hB
 go_enter Tryz.func37,Tryz.ntmps37
 go_upto_region 1 with fail
 have HG:=hid (beg w r0)
 generalize ((w.alloc (.cells r0 RT)).alloc (.cells #[.string ⟨#[]⟩,.string ⟨#[]⟩,.string ⟨#[]⟩,.bool false,.int .i64 0,.string ⟨#[]⟩,.int .u32 0,.int .u16 0,.int .u16 0,.int .u16 0,.int .u16 0,.int .u16 0,.int .u16 0,.int .u16 0,.int .u16 0,.int .i64 0,.bool false,.string ⟨#[]⟩,.slice none 0 0,.bool false,.string ⟨#[]⟩,.bool false,.string ⟨#[]⟩] UT))=w2 at *
 obtain ⟨R,hR⟩:∃R,w.heap.size+1=R:=⟨_,rfl⟩
 rw [hR] at HG ⊢
 clear hR
 obtain ⟨G,hGw⟩:∃G,w.heap.size=G:=⟨_,rfl⟩
 have hBG:B≤G:=by rw [← hGw];exact HB.out
 have HBw:Hid (w.heap.size=G):=hGw
 rw [hGw] at HG ⊢
 clear hGw
 have hBR:B≤R:=by have h1:=HG.out.r;have h2:=HB.out;omega
 have HBR:=hid hBR
 have HBG:=hid hBG
 have HO:Hid ((#[.string ⟨#[]⟩,.string ⟨#[]⟩,.string ⟨#[]⟩,.bool false,.int .i64 0,.string ⟨#[]⟩,.int .u32 0,.int .u16 0,.int .u16 0,.int .u16 0,.int .u16 0,.int .u16 0,.int .u16 0,.int .u16 0,.int .u16 0,.int .i64 0,.bool false,.string ⟨#[]⟩,.slice none 0 0,.bool false,.string ⟨#[]⟩,.bool false,.string ⟨#[]⟩]:Array Value).all (·.oneCell')=true):=hid (all_oneCell_toArray (List.all_eq_true.1 (show (urlC url0 (.slice none 0 0)).all (·.oneCell')=true from rfl)))
 have HRc:=hid (HG.out.rc)
 have HBl:=hid (HG.out.bel)
 go_upto_region 2 with fail
 clear h4 hi HG hBR hBG
 have HT:=hid (url_there HRc.out)
 have HS:Hid (Bc UT (w2.setCells R 0 [.string ⟨#[]⟩,.string ⟨#[]⟩,.string ⟨#[]⟩,.bool false,.int .i64 0,.string ⟨#[]⟩,.int .u32 0,.int .u16 0,.int .u16 0,.int .u16 0,.int .u16 0,.int .u16 0,.int .u16 0,.int .u16 0,.int .u16 0,.int .i64 0,.bool false,.string ⟨#[]⟩,.slice none 0 0,.bool false,.string ⟨#[]⟩,.bool false,.string ⟨#[]⟩]) R (urlC url0 (.slice none 0 0))∧Below B w2 (w2.setCells R 0 [.string ⟨#[]⟩,.string ⟨#[]⟩,.string ⟨#[]⟩,.bool false,.int .i64 0,.string ⟨#[]⟩,.int .u32 0,.int .u16 0,.int .u16 0,.int .u16 0,.int .u16 0,.int .u16 0,.int .u16 0,.int .u16 0,.int .u16 0,.int .i64 0,.bool false,.string ⟨#[]⟩,.slice none 0 0,.bool false,.string ⟨#[]⟩,.bool false,.string ⟨#[]⟩])):=hid (url_store (v:=url0) (pv:=.slice none 0 0) HRc.out HBR.out)
 go_wp2_with (refine wpList_store_mid rfl 29 _ _ rfl R 0 #[.string ⟨#[]⟩,.string ⟨#[]⟩,.string ⟨#[]⟩,.bool false,.int .i64 0,.string ⟨#[]⟩,.int .u32 0,.int .u16 0,.int .u16 0,.int .u16 0,.int .u16 0,.int .u16 0,.int .u16 0,.int .u16 0,.int .u16 0,.int .i64 0,.bool false,.string ⟨#[]⟩,.slice none 0 0,.bool false,.string ⟨#[]⟩,.bool false,.string ⟨#[]⟩] rfl rfl HT.out info_url HO.out ?_;try simp only [List.toList_toArray];generalize World.setCells w2 R 0 _=w3 at *)
 refine bodyPost_ret (results_ct Tryz.results37 rfl (url_load HS.out.1) rfl) rfl ?_
 show ReadU B _ w _ w3
 rw [HX.out]
 exact ⟨⟨.slice none 0 0,rfl,Own.nil _ _ _ _⟩,(HBl.out.mono HB.out).trans HS.out.2⟩
theorem sets_other {R k:Nat} (hk:k≠R):∀(l:List (Nat×Value)) (w:World),(sets R l w).heap[k]? = w.heap[k]?
 | [],w=>rfl
 | p::l,w=>(sets_other hk l _).trans (heap_setCell_other w _ k _ hk)
theorem path_store {w:World} {B R:Nat} {v:Value} {l:List (List UInt8)} {xs:List Value} (hq:PathO w B v l) (h:Bc UT w R xs) (vs:List Value):PathO (w.setCells R 0 vs) B v l :=
 own_kept hq (fun k e=>by rw [setCells_sets];exact sets_other (typ_apart h (by obtain ⟨cs,fr,hh⟩:=(own_trow hq).2 k e;exact ⟨cs,_,fr,hh,by decide⟩)) _ _)
theorem uread_go (s:ByteArray) {b:UrlN} {has:Bool} {w:World} {B:Nat} {bpv:Value} (r0:Array Value) (hr0:r0=(rdC (x0 b has) (.slice none 0 0) bpv (.slice none 0 0) (.slice none 0 0) (.slice none 0 0) (.slice none 0 0)).toArray) (hB:B≤w.heap.size) (hT:TB B w) (hp:PathO w B bpv b.path) (hb:b.path.length≤90000) (h:s.size≤4000) :
 Calls Tryz.prog 37 #[.string s,.agg r0] w fun e w'=>ReadU B (urlR s.data.toList b has) w e w':=by
 have h4:decide ((4000:Int) < (s.size:Int))=false:=decide_eq_false (by omega)
 have hi:(s.size:Int)≤4000:=by omega
 have HB:=hid hB
 have HTb:=hid hT
 have HP:=hid hp
 have HR0:=hid hr0
 have HSg:=hid (fun w=>signs_calls s w h)
 have HRun:=hid (run_begin s.data.toList b has (by rw [bytes_num];exact h))
 have HLen:=hid (Nat.le_trans (strip_len s.data.toList) (by rw [bytes_num];exact h))
 have HPos:=hid (strip_pos s.data.toList)
 have Hb:=hid hb
 clear h hB hT hp hr0 hb
 generalize urlR s.data.toList b has=A at *
 go_enter Tryz.func37,Tryz.ntmps37
 go_upto_region 1 with fail
 have HG:=hid (beg w r0)
 generalize ((w.alloc (.cells r0 RT)).alloc (.cells #[.string ⟨#[]⟩,.string ⟨#[]⟩,.string ⟨#[]⟩,.bool false,.int .i64 0,.string ⟨#[]⟩,.int .u32 0,.int .u16 0,.int .u16 0,.int .u16 0,.int .u16 0,.int .u16 0,.int .u16 0,.int .u16 0,.int .u16 0,.int .i64 0,.bool false,.string ⟨#[]⟩,.slice none 0 0,.bool false,.string ⟨#[]⟩,.bool false,.string ⟨#[]⟩] UT))=w2 at *
 obtain ⟨R,hR⟩:∃R,w.heap.size+1=R:=⟨_,rfl⟩
 rw [hR] at HG ⊢
 clear hR
 obtain ⟨G,hGw⟩:∃G,w.heap.size=G:=⟨_,rfl⟩
 have hBG:B≤G:=by rw [← hGw];exact HB.out
 have HBw:Hid (w.heap.size=G):=hGw
 rw [hGw] at HG ⊢
 clear hGw
 have hBR:B≤R:=by have h1:=HG.out.r;have h2:=HB.out;omega
 have HBR:=hid hBR
 have HBG:=hid hBG
 have HO:Hid ((#[.string ⟨#[]⟩,.string ⟨#[]⟩,.string ⟨#[]⟩,.bool false,.int .i64 0,.string ⟨#[]⟩,.int .u32 0,.int .u16 0,.int .u16 0,.int .u16 0,.int .u16 0,.int .u16 0,.int .u16 0,.int .u16 0,.int .u16 0,.int .i64 0,.bool false,.string ⟨#[]⟩,.slice none 0 0,.bool false,.string ⟨#[]⟩,.bool false,.string ⟨#[]⟩]:Array Value).all (·.oneCell')=true):=hid (all_oneCell_toArray (List.all_eq_true.1 (show (urlC url0 (.slice none 0 0)).all (·.oneCell')=true from rfl)))
 have HGc:Hid (Bc RT w2 G (rdC (x0 b has) (.slice none 0 0) bpv (.slice none 0 0) (.slice none 0 0) (.slice none 0 0) (.slice none 0 0))):=by
  have:=HG.out.gc
  rw [HR0.out] at this
  exact this
 have HRc:=hid (HG.out.rc)
 have HBl:=hid (HG.out.bel)
 have HP2:Hid (PathO w2 B bpv b.path):=hid (HP.out.below HBl.out)
 have HT2:=hid (HTb.out.below (HBl.out.mono HB.out))
 clear HG hBR hBG HTb HP
 go_wp2_with fail
 refine (HSg.out _).mono ?_
 rintro e w3 ⟨⟨v0,rfl,hv,hvk⟩,hb3⟩
 obtain ⟨va,vcap,hve,-⟩:=hv.1
 subst hve
 have h2B:B≤w2.heap.size:=Nat.le_trans HBG.out (Nat.le_of_lt HGc.out.lt)
 have HGc3:=hid (HGc.out.below hb3)
 have HRc3:=hid (HRc.out.below hb3)
 have HBl3:=hid ((HBl.out.mono HB.out).trans (hb3.mono h2B))
 have HRd:=hid (rd_begin (w:=w) (HT2.out.below (hb3.mono h2B)) HBG.out HGc3.out (HP2.out.below hb3) hv)
 have HKp:Hid (Keep w3 ((w3.setCell ⟨G,0,none⟩ (.slice va (stripRU s.data.toList).length vcap)).setCell ⟨G,41,none⟩ (.int .i64 (-1)))):=hid ((keepSet HGc3.out).trans (keepSet (HGc3.out.set 0 (.slice va (stripRU s.data.toList).length vcap))))
 have HBl4:Hid (Below B w ((w3.setCell ⟨G,0,none⟩ (.slice va (stripRU s.data.toList).length vcap)).setCell ⟨G,41,none⟩ (.int .i64 (-1)))):=hid ((HBl3.out.trans (setB w3 HBG.out 0 (.slice va (stripRU s.data.toList).length vcap))).trans (setB _ HBG.out 41 _))
 have c0:=(HGc3.out.cell 0 rfl).1
 have f0:=(HGc3.out.cell 0 rfl).2
 have c41:=((HGc3.out.set 0 (.slice va (stripRU s.data.toList).length vcap)).cell 41 rfl).1
 have f41:=((HGc3.out.set 0 (.slice va (stripRU s.data.toList).length vcap)).cell 41 rfl).2
 clear hb3 h2B hv hvk HGc HRc HBl HP2 HT2 HSg HGc3 HBl3
 go_wp2_with fail
 have HRc4:=hid (HRc3.out.kept (HKp.out R _ UT _ (Or.inr rfl) HRc3.out))
 clear HKp HRc3
 try clear c0
 try clear c41
 try clear f0
 try clear f41
 generalize (w3.setCell ⟨G,0,none⟩ (.slice va (stripRU s.data.toList).length vcap)).setCell ⟨G,41,none⟩ (.int .i64 (-1))=w4 at *
 refine (urun_calls HRd.out HRun.out HPos.out HLen.out Hb.out pathQ_eq).mono ?_
 rintro e w5 ⟨hb5,hk5,n,rfl,hcase⟩
 have HRc5:=hid (HRc4.out.kept (hk5 R _ UT _ (Or.inr rfl) HRc4.out))
 have HBl5:=hid (HBl4.out.trans hb5)
 clear hb5 hk5 HRc4 HBl4 HRd
 rcases hcase with ⟨hn,hA⟩ | ⟨hn,x',⟨tv,bpv',upv,bv,uv,pv,hs⟩,hA⟩
 ·have HA:=hid hA
  have e1:((n:Int) != 0)=true:=by rw [bne_iff_ne];omega
  clear hA hn
  go_upto_region 7 with fail
  clear h4 hi e1
  have HT:=hid (url_there HRc5.out)
  have HS:Hid (Bc UT (w5.setCells R 0 [.string ⟨#[]⟩,.string ⟨#[]⟩,.string ⟨#[]⟩,.bool false,.int .i64 0,.string ⟨#[]⟩,.int .u32 0,.int .u16 0,.int .u16 0,.int .u16 0,.int .u16 0,.int .u16 0,.int .u16 0,.int .u16 0,.int .u16 0,.int .i64 0,.bool false,.string ⟨#[]⟩,.slice none 0 0,.bool false,.string ⟨#[]⟩,.bool false,.string ⟨#[]⟩]) R (urlC url0 (.slice none 0 0))∧Below B w5 (w5.setCells R 0 [.string ⟨#[]⟩,.string ⟨#[]⟩,.string ⟨#[]⟩,.bool false,.int .i64 0,.string ⟨#[]⟩,.int .u32 0,.int .u16 0,.int .u16 0,.int .u16 0,.int .u16 0,.int .u16 0,.int .u16 0,.int .u16 0,.int .u16 0,.int .i64 0,.bool false,.string ⟨#[]⟩,.slice none 0 0,.bool false,.string ⟨#[]⟩,.bool false,.string ⟨#[]⟩])):=hid (url_store (v:=url0) (pv:=.slice none 0 0) HRc5.out HBR.out)
  go_wp2_with (refine wpList_store_mid rfl 29 _ _ rfl R 0 #[.string ⟨#[]⟩,.string ⟨#[]⟩,.string ⟨#[]⟩,.bool false,.int .i64 0,.string ⟨#[]⟩,.int .u32 0,.int .u16 0,.int .u16 0,.int .u16 0,.int .u16 0,.int .u16 0,.int .u16 0,.int .u16 0,.int .u16 0,.int .i64 0,.bool false,.string ⟨#[]⟩,.slice none 0 0,.bool false,.string ⟨#[]⟩,.bool false,.string ⟨#[]⟩] rfl rfl HT.out info_url HO.out ?_;try simp only [List.toList_toArray];generalize World.setCells w5 R 0 _=w6 at *)
  refine bodyPost_ret (results_ct Tryz.results37 rfl (url_load HS.out.1) rfl) rfl ?_
  show ReadU B _ w _ w6
  rw [HA.out]
  exact ⟨⟨.slice none 0 0,rfl,Own.nil _ _ _ _⟩,HBl5.out.trans HS.out.2⟩
 ·subst hn
  have HA:=hid hA
  have HQ:=hid hs.r.q
  have HUr:=hid hs.u_range
  have c44:=hs.at 44 rfl
  obtain ⟨a,cap,hupv,-⟩:=HQ.out.row
  subst hupv
  clear hA hs
  by_cases hl:256 < x'.m.u.path.length
  ·have e2:decide ((256:Int) < (x'.m.u.path.length:Int))=true:=decide_eq_true (by omega)
   have HX:Hid (A=(url0,11)):=by show _=_;rw [← HA.out,if_pos hl]
   have i2:(256:Int) < (x'.m.u.path.length:Int):=by omega
   clear hl
   go_upto_region 9 with fail
   clear h4 hi e2 c44 i2
   have HT:=hid (url_there HRc5.out)
   have HS:Hid (Bc UT (w5.setCells R 0 [.string ⟨#[]⟩,.string ⟨#[]⟩,.string ⟨#[]⟩,.bool false,.int .i64 0,.string ⟨#[]⟩,.int .u32 0,.int .u16 0,.int .u16 0,.int .u16 0,.int .u16 0,.int .u16 0,.int .u16 0,.int .u16 0,.int .u16 0,.int .i64 0,.bool false,.string ⟨#[]⟩,.slice none 0 0,.bool false,.string ⟨#[]⟩,.bool false,.string ⟨#[]⟩]) R (urlC url0 (.slice none 0 0))∧Below B w5 (w5.setCells R 0 [.string ⟨#[]⟩,.string ⟨#[]⟩,.string ⟨#[]⟩,.bool false,.int .i64 0,.string ⟨#[]⟩,.int .u32 0,.int .u16 0,.int .u16 0,.int .u16 0,.int .u16 0,.int .u16 0,.int .u16 0,.int .u16 0,.int .u16 0,.int .i64 0,.bool false,.string ⟨#[]⟩,.slice none 0 0,.bool false,.string ⟨#[]⟩,.bool false,.string ⟨#[]⟩])):=hid (url_store (v:=url0) (pv:=.slice none 0 0) HRc5.out HBR.out)
   go_wp2_with (refine wpList_store_mid rfl 29 _ _ rfl R 0 #[.string ⟨#[]⟩,.string ⟨#[]⟩,.string ⟨#[]⟩,.bool false,.int .i64 0,.string ⟨#[]⟩,.int .u32 0,.int .u16 0,.int .u16 0,.int .u16 0,.int .u16 0,.int .u16 0,.int .u16 0,.int .u16 0,.int .u16 0,.int .i64 0,.bool false,.string ⟨#[]⟩,.slice none 0 0,.bool false,.string ⟨#[]⟩,.bool false,.string ⟨#[]⟩] rfl rfl HT.out info_url HO.out ?_;try simp only [List.toList_toArray];generalize World.setCells w5 R 0 _=w6 at *)
   refine bodyPost_ret (results_ct Tryz.results37 rfl (url_load HS.out.1) rfl) rfl ?_
   show ReadU B _ w _ w6
   rw [HX.out]
   exact ⟨⟨.slice none 0 0,rfl,Own.nil _ _ _ _⟩,HBl5.out.trans HS.out.2⟩
  ·have e2:decide ((256:Int) < (x'.m.u.path.length:Int))=false:=decide_eq_false (by omega)
   have HX:Hid (A=(x'.m.u,0)):=by show _=_;rw [← HA.out,if_neg hl]
   have i2:¬(256:Int) < (x'.m.u.path.length:Int):=by omega
   clear hl
   have HT:=hid (url_there HRc5.out)
   have HS:=hid (url_store (v:=x'.m.u) (pv:=.slice a x'.m.u.path.length cap) HRc5.out HBR.out)
   have HPs:=hid (path_store HQ.out HRc5.out (urlC x'.m.u (.slice a x'.m.u.path.length cap)))
   have HO2:Hid ((urlC x'.m.u (.slice a x'.m.u.path.length cap)).toArray.all (·.oneCell')=true):=hid (all_oneCell_toArray (List.all_eq_true.1 rfl))
   go_upto_region 10 with fail
   clear h4 hi e2 c44 i2
   generalize hU:urlC x'.m.u (.slice a x'.m.u.path.length cap)=U at *
   go_wp2_with (first | refine wpList_load_mid rfl 29 _ rfl G 26 rfl U _ HUr.out Tryz.underlying29 rfl (by rw [← hU];exact info_url) ?_ | (refine wpList_store_mid rfl 29 _ _ rfl R 0 U.toArray rfl rfl (by rw [← hU];exact HT.out) (by rw [← hU];exact info_url) HO2.out ?_;try simp only [List.toList_toArray];generalize World.setCells w5 R 0 _=w6 at *))
   have hU1:=HS.out.1
   rw [← hU] at hU1
   refine bodyPost_ret (results_ct Tryz.results37 rfl (url_load hU1) rfl) rfl ?_
   show ReadU B _ w _ w6
   rw [HX.out]
   exact ⟨⟨_,rfl,HPs.out⟩,HBl5.out.trans HS.out.2⟩
theorem uread_calls (s:ByteArray) {b:UrlN} {has:Bool} {w:World} {B:Nat} {bpv:Value} (r0:Array Value) (hr0:r0=(rdC (x0 b has) (.slice none 0 0) bpv (.slice none 0 0) (.slice none 0 0) (.slice none 0 0) (.slice none 0 0)).toArray) (hB:B≤w.heap.size) (hT:TB B w) (hp:PathO w B bpv b.path) (hb:b.path.length≤90000) :
 Calls Tryz.prog 37 #[.string s,.agg r0] w fun e w'=>ReadU B (urlR s.data.toList b has) w e w':=by
 by_cases h:4000 < s.size
 ·exact uread_long s r0 hB h
 ·exact uread_go s r0 hr0 hB hT hp hb (by omega)
def zrd:Array Value:=#[.slice none 0 0,.int .i64 0,.string ⟨#[]⟩,.string ⟨#[]⟩,.string ⟨#[]⟩,.bool false,.int .i64 0,.string ⟨#[]⟩,.int .u32 0,.int .u16 0,.int .u16 0,.int .u16 0,.int .u16 0,.int .u16 0,.int .u16 0,.int .u16 0,.int .u16 0,.int .i64 0,.bool false,.string ⟨#[]⟩,.slice none 0 0,.bool false,.string ⟨#[]⟩,.bool false,.string ⟨#[]⟩,.bool false,.string ⟨#[]⟩,.string ⟨#[]⟩,.string ⟨#[]⟩,.bool false,.int .i64 0,.string ⟨#[]⟩,.int .u32 0,.int .u16 0,.int .u16 0,.int .u16 0,.int .u16 0,.int .u16 0,.int .u16 0,.int .u16 0,.int .u16 0,.int .i64 0,.bool false,.string ⟨#[]⟩,.slice none 0 0,.bool false,.string ⟨#[]⟩,.bool false,.string ⟨#[]⟩,.slice none 0 0,.slice none 0 0,.slice none 0 0,.bool false,.bool false,.bool false]
theorem zrd_is:zrd=(rdC (x0 url0 false) (.slice none 0 0) (.slice none 0 0) (.slice none 0 0) (.slice none 0 0) (.slice none 0 0) (.slice none 0 0)).toArray:=rfl
theorem url_one (u:UrlN) (pv:Value) (h:pv.oneCell'=true):((urlC u pv).toArray.all (·.oneCell')=true):=all_oneCell_toArray (List.all_eq_true.1 (by unfold urlC;simp [List.all,Value.oneCell',u16v];cases pv<;>first | rfl | exact h))
theorem uparse_calls (s:ByteArray) (w:World) (T:TabR w) :
 Calls Tryz.prog 23 #[.string s] w fun e w'=>ReadU w.heap.size (urlR s.data.toList url0 false) w e w':=by
 have hb2:Below w.heap.size w (w.alloc (.cells #[.string ⟨#[]⟩,.string ⟨#[]⟩,.string ⟨#[]⟩,.bool false,.int .i64 0,.string ⟨#[]⟩,.int .u32 0,.int .u16 0,.int .u16 0,.int .u16 0,.int .u16 0,.int .u16 0,.int .u16 0,.int .u16 0,.int .u16 0,.int .i64 0,.bool false,.string ⟨#[]⟩,.slice none 0 0,.bool false,.string ⟨#[]⟩,.bool false,.string ⟨#[]⟩] UT)):=(Below.refl _ _).alloc (Nat.le_refl _) _
 have HB2:=hid hb2
 have HT2:=hid (T.below hb2)
 have HRc:Hid (Bc UT (w.alloc (.cells #[.string ⟨#[]⟩,.string ⟨#[]⟩,.string ⟨#[]⟩,.bool false,.int .i64 0,.string ⟨#[]⟩,.int .u32 0,.int .u16 0,.int .u16 0,.int .u16 0,.int .u16 0,.int .u16 0,.int .u16 0,.int .u16 0,.int .u16 0,.int .i64 0,.bool false,.string ⟨#[]⟩,.slice none 0 0,.bool false,.string ⟨#[]⟩,.bool false,.string ⟨#[]⟩] UT)) w.heap.size (urlC url0 (.slice none 0 0))):=hid (heap_alloc_new w _)
 have HRd:=hid (uread_calls s (b:=url0) (has:=false) (w:=(w.alloc (.cells #[.string ⟨#[]⟩,.string ⟨#[]⟩,.string ⟨#[]⟩,.bool false,.int .i64 0,.string ⟨#[]⟩,.int .u32 0,.int .u16 0,.int .u16 0,.int .u16 0,.int .u16 0,.int .u16 0,.int .u16 0,.int .u16 0,.int .u16 0,.int .i64 0,.bool false,.string ⟨#[]⟩,.slice none 0 0,.bool false,.string ⟨#[]⟩,.bool false,.string ⟨#[]⟩] UT))) (B:=(w.alloc (.cells #[.string ⟨#[]⟩,.string ⟨#[]⟩,.string ⟨#[]⟩,.bool false,.int .i64 0,.string ⟨#[]⟩,.int .u32 0,.int .u16 0,.int .u16 0,.int .u16 0,.int .u16 0,.int .u16 0,.int .u16 0,.int .u16 0,.int .u16 0,.int .i64 0,.bool false,.string ⟨#[]⟩,.slice none 0 0,.bool false,.string ⟨#[]⟩,.bool false,.string ⟨#[]⟩] UT)).heap.size) zrd zrd_is (Nat.le_refl _) (TB.new HT2.out) (Own.nil _ _ _ _) (by decide))
 unfold zrd at HRd
 have HLt:Hid (w.heap.size≤(w.alloc (.cells #[.string ⟨#[]⟩,.string ⟨#[]⟩,.string ⟨#[]⟩,.bool false,.int .i64 0,.string ⟨#[]⟩,.int .u32 0,.int .u16 0,.int .u16 0,.int .u16 0,.int .u16 0,.int .u16 0,.int .u16 0,.int .u16 0,.int .u16 0,.int .i64 0,.bool false,.string ⟨#[]⟩,.slice none 0 0,.bool false,.string ⟨#[]⟩,.bool false,.string ⟨#[]⟩] UT)).heap.size):=hid hb2.size
 clear hb2 T HT2
 generalize urlR s.data.toList url0 false=A at *
 go_enter Tryz.func23,Tryz.ntmps23
 go_upto_region 1 with fail
 generalize w.alloc (.cells #[.string ⟨#[]⟩,.string ⟨#[]⟩,.string ⟨#[]⟩,.bool false,.int .i64 0,.string ⟨#[]⟩,.int .u32 0,.int .u16 0,.int .u16 0,.int .u16 0,.int .u16 0,.int .u16 0,.int .u16 0,.int .u16 0,.int .u16 0,.int .i64 0,.bool false,.string ⟨#[]⟩,.slice none 0 0,.bool false,.string ⟨#[]⟩,.bool false,.string ⟨#[]⟩] UT)=w2 at *
 obtain ⟨R,hR⟩:∃R,w.heap.size=R:=⟨_,rfl⟩
 rw [hR] at HRc HLt HB2 ⊢
 have HR:Hid (w.heap.size=R):=hid hR
 clear hR
 go_wp2_with fail
 refine HRd.out.mono ?_
 rintro e w3 ⟨⟨pv,rfl,hp⟩,hb⟩
 have HRc3:=hid (HRc.out.below hb)
 have HB3:=hid (HB2.out.trans (hb.mono HLt.out))
 have HT:=hid (url_there HRc3.out)
 have HS:=hid (url_store (v:=A.1) (pv:=pv) HRc3.out (Nat.le_refl R))
 have HP:=hid ((path_store hp HRc3.out (urlC A.1 pv)).mono (base':=R) HLt.out)
 have hpv:pv.oneCell'=true:=by obtain ⟨a,cap,hpv,-⟩:=hp.row;rw [hpv];rfl
 have HO:=hid (url_one A.1 pv hpv)
 clear hp hb HRc hpv
 obtain ⟨V,hV⟩:∃V,urlC A.1 pv=V:=⟨_,rfl⟩
 have HV:=hid hV
 have HZ:Hid ((Tryz.prog.info? 29).map (·.size)=some V.toArray.size):=by show _=_;rw [← hV];exact info_url
 have HTh:Hid (w3.there R 0 V.toArray.size):=by show World.there _ _ _ _;rw [← hV];exact HT.out
 rw [hV] at HS HP HO ⊢
 clear hV HT
 go_wp2_with (refine wpList_store_mid rfl 29 _ _ rfl R 0 V.toArray rfl rfl HTh.out HZ.out HO.out ?_;try simp only [List.toList_toArray];generalize World.setCells w3 R 0 _=w4 at *)
 have h1:=HS.out.1
 rw [← HV.out] at h1
 refine bodyPost_ret (results_ct Tryz.results23 rfl (url_load h1) rfl) rfl ?_
 refine ⟨⟨pv,rfl,?_⟩,?_⟩
 ·rw [HR.out];exact HP.out
 ·rw [HR.out];exact HB3.out.trans HS.out.2
end Go.Proofs.YtigfgloenjoeoaaGreatDoor
