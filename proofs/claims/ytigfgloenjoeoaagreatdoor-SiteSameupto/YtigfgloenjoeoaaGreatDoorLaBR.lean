import Derived.Test.YtigfgloenjoeoaaGreatDoorLaBP
import Derived.Test.YtigfgloenjoeoaaGreatDoorLaBQ
set_option linter.unusedVariables false
set_option linter.unusedSimpArgs false
set_option maxRecDepth 20000
set_option maxHeartbeats 16000000
namespace Go.Proofs.YtigfgloenjoeoaaGreatDoor
open Go.RowKit Go.Shelf Go.Lib Go.Sort
def lowP (c:Int):Bool:=decide (c≤32)
theorem dw_yes {x:Int} {r:List Int} (h:x≤32):(x::r).dropWhile lowP=r.dropWhile lowP:=by rw [List.dropWhile_cons,if_pos (by unfold lowP;simpa using h)]
theorem dw_no {x:Int} {r:List Int} (h:¬x≤32):(x::r).dropWhile lowP=x::r:=by rw [List.dropWhile_cons,if_neg (by unfold lowP;simpa using h)]
def Seg (w:World) (g off cap:Nat) (L:List Int):Prop :=
 ∃cs,w.heap[g]? = some (.cells cs 3 (0,0))∧L.length≤cap∧cap≤maxLen∧∀i (h:i < L.length),cs[off+i]? = some (fi L[i])
theorem Seg.cell {w:World} {g off cap:Nat} {L:List Int} (h:Seg w g off cap L) (i:Nat) (hi:i < L.length):w.cell? ⟨g,off+i,none⟩=some (fi L[i])∧w.frozen? ⟨g,off+i,none⟩=false:=by
 obtain ⟨cs,h1,h2,h3,h4⟩:=h
 refine ⟨?_,?_⟩
 ·rw [← h4 i hi];simp [World.cell?,h1]
 ·simp [World.frozen?,h1]
theorem Seg.tail {w:World} {g off cap:Nat} {x:Int} {L:List Int} (h:Seg w g off cap (x::L)):Seg w g (off+1) (cap-1) L:=by
 obtain ⟨cs,h1,h2,h3,h4⟩:=h
 rw [List.length_cons] at h2
 exact ⟨cs,h1,by omega,by omega,fun i hi=>by
  have:=h4 (i+1) (by rw [List.length_cons];omega)
  rw [show off+1+i=off+(i+1) by omega,this];rfl⟩
theorem Seg.tailC {w:World} {g off cap:Nat} {x:Int} {L:List Int} (h:Seg w g off cap (x::L)):Seg w g (if cap=1 then off else off+1) (cap-1) L:=by
 by_cases hc:cap=1
 ·obtain ⟨cs,h1,h2,h3,h4⟩:=h
  rw [List.length_cons] at h2
  have:L=[]:=List.eq_nil_of_length_eq_zero (by omega)
  subst this
  exact ⟨cs,h1,Nat.zero_le _,by omega,fun i hi=>absurd hi (Nat.not_lt_zero _)⟩
 ·rw [if_neg hc];exact h.tail
theorem dw_stop {L M:List Int} (h:¬ ∃x r,L=x::r∧x≤32) (e:L.dropWhile lowP=M):L=M:=by
 cases L with
 | nil=>exact e
 | cons x r=>rw [← e,dw_no (fun hx=>h ⟨x,r,rfl,hx⟩)]
theorem Seg.init {w:World} {g off cap:Nat} {x:Int} {L:List Int} (h:Seg w g off cap (L++[x])):Seg w g off cap L:=by
 obtain ⟨cs,h1,h2,h3,h4⟩:=h
 rw [List.length_append,List.length_singleton] at h2
 exact ⟨cs,h1,by omega,h3,fun i hi=>by
  have:=h4 i (by rw [List.length_append,List.length_singleton];omega)
  rw [this,List.getElem_append_left hi]⟩
theorem seg_of {w:World} {B g cap:Nat} {L:List Int} {n:Nat} (h:IOwn w B (.slice (some ⟨g,0,none⟩) n cap) L):Seg w g 0 cap L:=by
 rcases h.2 with ⟨e,_⟩ | ⟨g',cap',cur,e,hb,hg,hnc,hcm,hcs,htake⟩
 ·cases e
 ·have e':g'=g∧cap'=cap:=by injection e with e1 e2 e3;injection e1 with e1;injection e1 with e1;exact ⟨e1.symm,e3.symm⟩
  obtain ⟨rfl,rfl⟩:=e'
  refine ⟨cur,hg,hnc,hcm,fun i hi=>?_⟩
  have h1:(cur.toList.take (L.length * 1))[i]? = (L.map fi)[i]? := by rw [htake]
  rw [List.getElem?_take_of_lt (by omega),List.getElem?_map,List.getElem?_eq_getElem hi] at h1
  rw [Nat.zero_add,← Array.getElem?_toList,h1];rfl
theorem below_row {B:Nat} {w0 w:World} {g off q:Nat} {d:Array Int} (h:RowKit.Below B w0 w) (hg:B≤g):RowKit.Below B w0 (putRow (Value.int .i64) (Sort.ahead w q) g off d) :=
 ⟨h.os,h.tape,h.output,by simpa [putRow,mapBlock,Sort.ahead] using h.size,fun k hk=>by
  rw [← h.block k hk]
  simp [putRow,mapBlock,Sort.ahead,Array.getElem?_modify,show g≠k by omega]⟩
theorem typ_row {w:World} {g off cap q:Nat} {L:List Int} {d:Array Int} (h:Seg w g off cap L):∃cs fr,(putRow (Value.int .i64) (Sort.ahead w q) g off d).heap[g]? = some (.cells cs 3 fr):=by
 obtain ⟨cs,h1,-⟩:=h
 exact ⟨putCells (Value.int .i64) off d cs,(0,0),by simp [putRow,mapBlock,Sort.ahead,Array.getElem?_modify,h1,onCells]⟩
theorem Seg.lt {w:World} {g off cap:Nat} {L:List Int} (h:Seg w g off cap L):g < w.heap.size:=by
 obtain ⟨cs,h1,-⟩:=h
 exact heap_lt h1
theorem blank_not:(fun x=>!blankP x)=(fun c:Int=>c != 9&&c != 10&&c != 13):=by
 funext x;unfold blankP;simp [bne,Bool.not_or]
theorem rev_split (M:List Int):M=[]∨∃r x,M=r++[x]:=by
 rcases List.eq_nil_or_concat M with h | ⟨r,x,h⟩
 ·exact .inl h
 ·exact .inr ⟨r,x,by rw [h];simp⟩
theorem dw_rev {M N:List Int} (h:¬ ∃r x,M=r++[x]∧x≤32) (e:M.reverse.dropWhile lowP=N.reverse.dropWhile lowP):M=(N.reverse.dropWhile lowP).reverse:=by
 rcases rev_split M with rfl | ⟨r,x,rfl⟩
 ·rw [← e];rfl
 ·rw [← e,List.reverse_append,List.reverse_singleton,List.singleton_append,dw_no (fun hx=>h ⟨r,x,rfl,hx⟩)];simp
theorem del_post {w wr:World} {g off c:Nat} {L L' M:List Int} (hb:RowKit.Below w.heap.size w wr) (hg:w.heap.size≤g) (hs:Seg wr g off c M) (h1:L'=L.dropWhile lowP) (h2:M=(L'.reverse.dropWhile lowP).reverse) :
 Calls Tryz.prog 66 #[.slice (some ⟨g,off,none⟩) M.length c,.func (.func 67) #[] #[]] wr fun e w' =>
  ∃v,e=.returned v∧(TRow fi 3 w' v ((((L.dropWhile (fun c=>decide (c≤32))).reverse.dropWhile (fun c=>decide (c≤32))).reverse).filter (fun c=>c != 9&&c != 10&&c != 13))∧∀k,v.ownBlock=some k→w.heap.size≤k)∧RowKit.Below w.heap.size w w':=by
 have e1:((L.dropWhile (fun c=>decide (c≤32))).reverse.dropWhile (fun c=>decide (c≤32))).reverse=M:=by rw [h2,h1];rfl
 rw [e1,← blank_not]
 have hc:=hs
 obtain ⟨cs,q1,q2,q3,q4⟩:=hs
 refine (del_calls g off c M wr hc.lt (fun i hi=>hc.cell i hi) q2 q3).mono ?_
 rintro e w1 ⟨⟨v,rfl,hv,hrow⟩,q,D,rfl⟩
 subst hv
 exact ⟨_,rfl,⟨⟨hrow,fun k hk=>by cases hk;exact typ_row hc⟩,fun k hk=>by cases hk;exact hg⟩,below_row hb hg⟩
theorem idx_nil (w:World):Calls Tryz.prog 87 #[.slice none 0 0,.func (.func 67) #[] #[]] w fun e w'=>e=.returned (.int .i64 (-1))∧RowKit.Below w.heap.size w w':=by
 have HB:=hid (Below.refl w.heap.size w)
 go_enter Tryz.func87,Tryz.ntmps87
 go_wp2
 go_loopw [8] (fun v wr=>v=.int .i64 0∧wr=w) (fun v _=>0)
 case atStart=>exact ⟨rfl,rfl⟩
 case round =>
  obtain ⟨rfl,rfl⟩:=hrel
  go_wp2_with fail
  go_ret
  exact ⟨rfl,HB.out⟩
theorem del_nil (w:World):Calls Tryz.prog 66 #[.slice none 0 0,.func (.func 67) #[] #[]] w fun e w'=>e=.returned (.slice none 0 0)∧RowKit.Below w.heap.size w w':=by
 go_enter Tryz.func66,Tryz.ntmps66
 go_wp2_with fail
 refine (idx_nil _).mono ?_
 rintro e w1 ⟨rfl,hb⟩
 go_wp2_with fail
 go_ret
 exact ⟨rfl,hb⟩
def lenV:Value→Nat | .slice _ n _=>n | _=>0
theorem signs_calls (s:ByteArray) (w:World) (hs:s.size≤4000) :
 Calls Tryz.prog 50 #[.string s] w fun e w'=>(∃v,e=.returned v∧TRow fi 3 w' v (stripRU s.data.toList)∧∀k,v.ownBlock=some k→w.heap.size≤k)∧Below w.heap.size w w':=by
 have hcv:=Lib.run_convert_string_bytes (P:=Tryz.prog) w 9 73 5 s Tryz.underlying9 Tryz.underlying73 Tryz.underlying5
 have HRow:=hid (str_row w s (by omega))
 have HSW:=hid (str_world w s)
 have HSz:Hid (w.heap.size≤(Lib.bytesWorld w 5 s).heap.size):=HSW.out.size
 have HL:=hid (fun v w hv=>lossy_calls v s.data.toList w hv (by rw [bytes_num];omega))
 have HLL:=hid (lossy_all _ s.data.toList (Nat.le_refl _)).2
 have HN:=hid (bytes_num s)
 have s1:(s.size:Int)≤4000:=by omega
 unfold stripRU
 generalize Lib.bytesWorld w 5 s=wb at *
 generalize grownCap w s.size 0 5=cap at *
 obtain ⟨L,hL⟩:∃L,lossyL s.data.toList=L:=⟨_,rfl⟩
 rw [hL] at HL HLL ⊢
 have HS:=hid hs
 clear hs hL
 go_enter Tryz.func50,Tryz.ntmps50
 go_wp2_with fail
 refine (HL.out _ _ HRow.out).mono ?_
 rintro e w1 ⟨⟨v1,rfl,hv1⟩,hb1⟩
 rcases hv1.2 with ⟨rfl,hn⟩ | ⟨g,cp,cur,rfl,hb,hg,hnc,hcm,hcs,htake⟩
 ·have e0:L=[]:=List.eq_nil_of_length_eq_zero hn
  subst e0
  have HB1:=hid (below_trans HSW.out hb1)
  clear hv1 hb1 hn HL HRow hcv
  go_wp2
  go_loopw [3] (fun v wr=>v=.slice none 0 0∧RowKit.Below w.heap.size w wr) (fun v _=>0)
  case atStart=>exact ⟨rfl,HB1.out⟩
  case round =>
   obtain ⟨rfl,hbw⟩:=hrel
   have HB2:=hid hbw
   clear hbw
   go_wp2
   generalize wr=wx at *
   go_loopw [3] (fun v wr=>v=.slice none 0 0∧RowKit.Below w.heap.size w wr) (fun v _=>0)
   case atStart=>exact ⟨rfl,HB2.out⟩
   case round =>
    obtain ⟨rfl,hbw⟩:=hrel
    have HB3:=hid hbw
    clear hbw
    go_wp2_with fail
    refine (del_nil _).mono ?_
    rintro e w2 ⟨rfl,hb⟩
    have HB4:=hid (below_trans HB3.out hb)
    clear hb
    go_wp2_with fail
    go_ret
    exact ⟨⟨_,rfl,⟨Row.nil fi _,fun k hk=>by cases hk⟩,fun k hk=>by cases hk⟩,HB4.out⟩
 ·have HSg:=hid (seg_of hv1)
  have HB1:=hid (below_trans HSW.out hb1)
  have HBg:=hid hb
  clear hv1 hb1 htake hcs hg hb hnc hcm HL HRow hcv
  go_wp2
  go_loopw [3] (fun v wr=>∃off c L',v=.slice (some ⟨g,off,none⟩) L'.length c∧Seg wr g off c L'∧L'.dropWhile lowP=L.dropWhile lowP∧L'.length≤4000∧RowKit.Below w.heap.size w wr) (fun v _=>lenV v)
  case atStart=>exact ⟨0,cp,L,rfl,HSg.out,rfl,by have:=HLL.out;have:=HN.out;have:=HS.out;omega,HB1.out⟩
  case round =>
   obtain ⟨off,c,L',rfl,hsg,hdw,hln,hbw⟩:=hrel
   by_cases hlow:∃x r,L'=x::r∧x≤32
   ·obtain ⟨x,r,rfl,hx⟩:=hlow
    have h0:decide ((0:Int) < (((x::r).length:Nat):Int))=true:=decide_eq_true (by rw [List.length_cons];omega)
    have hc0:=(hsg.cell 0 (by rw [List.length_cons];omega)).1
    have hx1:decide (x≤32)=true:=decide_eq_true hx
    have hn0:(((x::r).length:Nat):Int)=(r.length:Int)+1:=by rw [List.length_cons];omega
    have HSG:=hid hsg
    have HDW:=hid hdw
    have HLN:=hid hln
    have HBW:=hid hbw
    rw [Nat.add_zero] at hc0
    clear hsg hdw hln hbw
    go_wp2_with fail
    go_roundw
    case rel=>exact ⟨if c=1 then off else off+1,c-1,r,by split<;>rfl,HSG.out.tailC,by rw [← HDW.out,dw_yes hx],by have:=HLN.out;rw [List.length_cons] at this;omega,HBW.out⟩
    case measure=>simp [lenV]
   ·have HD:Hid (L'=L.dropWhile lowP):=dw_stop hlow hdw
    have HSG:=hid hsg
    have HLN:=hid hln
    have HBW:=hid hbw
    have hwalk:(L'.length=0)∨(0 < L'.length∧decide ((0:Int) < ((L'.length:Nat):Int))=true∧∃x,wr.cell? ⟨g,off,none⟩=some (.int .i64 x)∧decide (x≤32)=false):=by
     cases L' with
     | nil=>exact .inl rfl
     | cons x r =>
       have hc0:=(hsg.cell 0 (by rw [List.length_cons];omega)).1
       exact .inr ⟨by rw [List.length_cons];omega,decide_eq_true (by rw [List.length_cons];omega),x,hc0,decide_eq_false (fun h=>hlow ⟨x,r,rfl,h⟩)⟩
    clear hsg hdw hln hbw hlow
    obtain ⟨n,hn⟩:∃n,L'.length=n:=⟨_,rfl⟩
    rw [hn] at hwalk ⊢
    have HNn:=hid hn
    clear hn
    rcases hwalk with h0 | ⟨hp,h0,x,hc0,hx⟩
    ·rw [h0] at HNn ⊢
     go_wp2_with fail
     generalize wr=wx at *
     go_loopw [3] (fun v wr=>∃M,v=.slice (some ⟨g,off,none⟩) M.length c∧Seg wr g off c M∧M.reverse.dropWhile lowP=L'.reverse.dropWhile lowP∧M.length≤4000∧RowKit.Below w.heap.size w wr) (fun v _=>lenV v)
     case atStart=>exact ⟨L',by rw [HNn.out],HSG.out,rfl,HLN.out,HBW.out⟩
     case round =>
      obtain ⟨M,rfl,hsg,hdw,hln,hbw⟩:=hrel
      clear h0
      try clear hp hc0 hx
      by_cases hlow:∃r x,M=r++[x]∧x≤32
      ·obtain ⟨r,x,rfl,hx⟩:=hlow
       have e1:(r++[x]).length=r.length+1:=by rw [List.length_append,List.length_singleton]
       have hc1:=(hsg.cell r.length (by rw [e1];omega)).1
       rw [List.getElem_append_right (Nat.le_refl _)] at hc1
       have hc0:wr.cell? ⟨g,off+r.length,none⟩=some (.int .i64 x):=by rw [hc1];simp
       have HS2:=hid hsg.init
       have HDW:=hid hdw
       have HLN2:=hid hln
       have HBW2:=hid hbw
       have hx1:decide (x≤32)=true:=decide_eq_true hx
       rw [e1] at hln ⊢
       have hr1:(r.length:Int)≤4000:=by omega
       have hrc:r.length≤c:=by obtain ⟨cs,q1,q2,q3,q4⟩:=HS2.out;exact q2
       obtain ⟨m,hm⟩:∃m,r.length=m:=⟨_,rfl⟩
       rw [hm] at hc0 hr1 hrc ⊢
       have HM:=hid hm
       clear hc1 hsg hdw hln hbw hm e1
       go_wp2_with fail
       go_roundw
       case rel=>exact ⟨r,by rw [HM.out],HS2.out,by rw [← HDW.out,List.reverse_append,List.reverse_singleton,List.singleton_append,dw_yes hx],by have:=HLN2.out;rw [List.length_append,List.length_singleton] at this;omega,HBW2.out⟩
       case measure=>simp [lenV]
      ·have HP:=hid (del_post hbw (Nat.le_trans HSz.out HBg.out) hsg HD.out (dw_rev hlow hdw))
       have hwalk:(M.length=0)∨∃m x,M.length=m+1∧(m:Int)≤4000∧wr.cell? ⟨g,off+m,none⟩=some (.int .i64 x)∧decide (x≤32)=false:=by
        rcases rev_split M with rfl | ⟨r,x,rfl⟩
        ·exact .inl rfl
        ·have e1:(r++[x]).length=r.length+1:=by rw [List.length_append,List.length_singleton]
         have hc1:=(hsg.cell r.length (by rw [e1];omega)).1
         rw [List.getElem_append_right (Nat.le_refl _)] at hc1
         exact .inr ⟨r.length,x,e1,by omega,by rw [hc1];simp,decide_eq_false (fun h=>hlow ⟨r,x,rfl,h⟩)⟩
       clear hsg hdw hln hbw hlow
       rcases hwalk with hm | ⟨m,x,hm,hm1,hc0,hx⟩
       ·rw [hm] at HP ⊢
        go_wp2_with fail
        refine HP.out.mono ?_
        rintro e w2 ⟨v,rfl,hq⟩
        go_wp2_with fail
        go_ret
        exact ⟨⟨_,rfl,hq.1⟩,hq.2⟩
       ·rw [hm] at HP ⊢
        go_wp2_with fail
        refine HP.out.mono ?_
        rintro e w2 ⟨v,rfl,hq⟩
        go_wp2_with fail
        go_ret
        exact ⟨⟨_,rfl,hq.1⟩,hq.2⟩
    ·go_wp2_with fail
     generalize wr=wx at *
     go_loopw [3] (fun v wr=>∃M,v=.slice (some ⟨g,off,none⟩) M.length c∧Seg wr g off c M∧M.reverse.dropWhile lowP=L'.reverse.dropWhile lowP∧M.length≤4000∧RowKit.Below w.heap.size w wr) (fun v _=>lenV v)
     case atStart=>exact ⟨L',by rw [HNn.out],HSG.out,rfl,HLN.out,HBW.out⟩
     case round =>
      obtain ⟨M,rfl,hsg,hdw,hln,hbw⟩:=hrel
      clear h0
      try clear hp hc0 hx
      by_cases hlow:∃r x,M=r++[x]∧x≤32
      ·obtain ⟨r,x,rfl,hx⟩:=hlow
       have e1:(r++[x]).length=r.length+1:=by rw [List.length_append,List.length_singleton]
       have hc1:=(hsg.cell r.length (by rw [e1];omega)).1
       rw [List.getElem_append_right (Nat.le_refl _)] at hc1
       have hc0:wr.cell? ⟨g,off+r.length,none⟩=some (.int .i64 x):=by rw [hc1];simp
       have HS2:=hid hsg.init
       have HDW:=hid hdw
       have HLN2:=hid hln
       have HBW2:=hid hbw
       have hx1:decide (x≤32)=true:=decide_eq_true hx
       rw [e1] at hln ⊢
       have hr1:(r.length:Int)≤4000:=by omega
       have hrc:r.length≤c:=by obtain ⟨cs,q1,q2,q3,q4⟩:=HS2.out;exact q2
       obtain ⟨m,hm⟩:∃m,r.length=m:=⟨_,rfl⟩
       rw [hm] at hc0 hr1 hrc ⊢
       have HM:=hid hm
       clear hc1 hsg hdw hln hbw hm e1
       go_wp2_with fail
       go_roundw
       case rel=>exact ⟨r,by rw [HM.out],HS2.out,by rw [← HDW.out,List.reverse_append,List.reverse_singleton,List.singleton_append,dw_yes hx],by have:=HLN2.out;rw [List.length_append,List.length_singleton] at this;omega,HBW2.out⟩
       case measure=>simp [lenV]
      ·have HP:=hid (del_post hbw (Nat.le_trans HSz.out HBg.out) hsg HD.out (dw_rev hlow hdw))
       have hwalk:(M.length=0)∨∃m x,M.length=m+1∧(m:Int)≤4000∧wr.cell? ⟨g,off+m,none⟩=some (.int .i64 x)∧decide (x≤32)=false:=by
        rcases rev_split M with rfl | ⟨r,x,rfl⟩
        ·exact .inl rfl
        ·have e1:(r++[x]).length=r.length+1:=by rw [List.length_append,List.length_singleton]
         have hc1:=(hsg.cell r.length (by rw [e1];omega)).1
         rw [List.getElem_append_right (Nat.le_refl _)] at hc1
         exact .inr ⟨r.length,x,e1,by omega,by rw [hc1];simp,decide_eq_false (fun h=>hlow ⟨r,x,rfl,h⟩)⟩
       clear hsg hdw hln hbw hlow
       rcases hwalk with hm | ⟨m,x,hm,hm1,hc0,hx⟩
       ·rw [hm] at HP ⊢
        go_wp2_with fail
        refine HP.out.mono ?_
        rintro e w2 ⟨v,rfl,hq⟩
        go_wp2_with fail
        go_ret
        exact ⟨⟨_,rfl,hq.1⟩,hq.2⟩
       ·rw [hm] at HP ⊢
        go_wp2_with fail
        refine HP.out.mono ?_
        rintro e w2 ⟨v,rfl,hq⟩
        go_wp2_with fail
        go_ret
        exact ⟨⟨_,rfl,hq.1⟩,hq.2⟩
end Go.Proofs.YtigfgloenjoeoaaGreatDoor
