import Derived.Test.YtpohekldddbneaaGreatDoorDaAE
import Derived.Test.YtpohekldddbneaaGreatDoorDaAA
import Derived.Deep.RegionHeld3
import Derived.Deep.DrawnRows
import Derived.Deep.DeepMust
import Derived.Deep.AppendLies
set_option linter.unusedVariables false
set_option linter.unusedSimpArgs false
set_option maxRecDepth 20000
set_option maxHeartbeats 16000000
namespace Go.Proofs.YtpohekldddbneaaGreatDoor
open Go.RowKit
attribute [local go_sem ↓] Go.wp_at_zero Go.wp_at_succ
def GoAt (last:Bool) (ps:List (List UInt8)) (k:Nat) (ns:List Nat):Prop:=goP last ps=(goP last (ps.drop k)).map (ns++·)
theorem GoAt.start (last:Bool) (ps:List (List UInt8)):GoAt last ps 0 []:=by unfold GoAt;simp
theorem goP_at {last:Bool} {ps:List (List UInt8)} {k:Nat} (h:k < ps.length):goP last (ps.drop k)=if last=true∧ps.drop (k+1)=[]∧1 < (splitR 46 ps[k]).length then fourR ps[k]
 else if ps[k]=[]∨4 < ps[k].length∨digsR 16 ps[k]=false then none
 else (goP last (ps.drop (k+1))).map (valX 16 ps[k]::·):=by
 rw [List.drop_eq_getElem_cons h]
 rfl
theorem drop_last {ps:List (List UInt8)} {k:Nat}:ps.drop (k+1)=[]↔ps.length≤k+1:=List.drop_eq_nil_iff
theorem GoAt.bad {last:Bool} {ps:List (List UInt8)} {k:Nat} {ns:List Nat} (h:GoAt last ps k ns) (hk:k < ps.length) (hn:¬(last=true∧ps.length≤k+1∧1 < (splitR 46 ps[k]).length)) (hb:ps[k]=[]∨4 < ps[k].length∨digsR 16 ps[k]=false):goP last ps=none:=by
 rw [h,goP_at hk,if_neg (fun e=>hn ⟨e.1,drop_last.1 e.2.1,e.2.2⟩),if_pos hb]
 rfl
theorem GoAt.good {last:Bool} {ps:List (List UInt8)} {k:Nat} {ns:List Nat} (h:GoAt last ps k ns) (hk:k < ps.length) (hn:¬(last=true∧ps.length≤k+1∧1 < (splitR 46 ps[k]).length)) (hb:¬(ps[k]=[]∨4 < ps[k].length∨digsR 16 ps[k]=false)):GoAt last ps (k+1) (ns++[valX 16 ps[k]]):=by
 unfold GoAt
 rw [h,goP_at hk,if_neg (fun e=>hn ⟨e.1,drop_last.1 e.2.1,e.2.2⟩),if_neg hb]
 simp only [Option.map_map]
 congr 1
 funext x
 simp
theorem GoAt.four {last:Bool} {ps:List (List UInt8)} {k:Nat} {ns:List Nat} (h:GoAt last ps k ns) (hk:k < ps.length) (hn:last=true∧ps.length≤k+1∧1 < (splitR 46 ps[k]).length):goP last ps=(fourR ps[k]).map (ns++·):=by
 rw [h,goP_at hk,if_pos ⟨hn.1,drop_last.2 hn.2.1,hn.2.2⟩]
theorem GoAt.done {last:Bool} {ps:List (List UInt8)} {k:Nat} {ns:List Nat} (h:GoAt last ps k ns) (hk:¬k < ps.length):goP last ps=some ns:=by
 rw [h,List.drop_of_length_le (by omega)]
 simp [goP]
theorem GoAt.end {last:Bool} {ps:List (List UInt8)} {k:Nat} {ns:List Nat} (h:goP last ps=some ns) (hk:ps.length≤k):GoAt last ps k ns:=by
 unfold GoAt
 rw [h,List.drop_of_length_le hk]
 simp [goP]
def OctAt (qs:List (List UInt8)) (j:Nat) (vs:List Nat):Prop:=vs.length=j∧(∀x∈vs,x≤255)∧octsR qs=(octsR (qs.drop j)).map (vs++·)
theorem OctAt.start (qs:List (List UInt8)):OctAt qs 0 []:=⟨rfl,fun x hx=>(by cases hx),by simp⟩
theorem octs_at {qs:List (List UInt8)} {j:Nat} (h:j < qs.length):octsR (qs.drop j)=match octR qs[j] with
 | none=>none
 | some n=>(octsR (qs.drop (j+1))).map (n::·):=by
 rw [List.drop_eq_getElem_cons h]
 rfl
theorem OctAt.none {qs:List (List UInt8)} {j:Nat} {vs:List Nat} (h:OctAt qs j vs) (hj:j < qs.length) (hn:octR qs[j]=none):octsR qs=none:=by
 rw [h.2.2,octs_at hj,hn]
 rfl
theorem OctAt.step {qs:List (List UInt8)} {j n:Nat} {vs:List Nat} (h:OctAt qs j vs) (hj:j < qs.length) (hn:octR qs[j]=some n):OctAt qs (j+1) (vs++[n]):=by
 refine ⟨by rw [List.length_append,h.1];rfl,fun x hx=>?_,?_⟩
 ·rcases List.mem_append.1 hx with hx | hx
  ·exact h.2.1 x hx
  ·rw [List.mem_singleton.1 hx];exact oct_lt hn
 ·rw [h.2.2,octs_at hj,hn]
  simp only [Option.map_map]
  congr 1
  funext x
  simp
theorem OctAt.done {qs:List (List UInt8)} {j:Nat} {vs:List Nat} (h:OctAt qs j vs) (hj:¬j < qs.length):octsR qs=some vs:=by
 rw [h.2.2,List.drop_of_length_le (by omega)]
 simp [octsR]
theorem oct_bad {q:List UInt8} (h:q=[]∨3 < q.length∨digsR 10 q=false∨(1 < q.length∧q.head? = some 48)):octR q=none:=by unfold octR;rw [if_pos h]
theorem oct_great {q:List UInt8} {n:Nat} (hn:(numR q).getD 0=n) (h:255 < n):octR q=none:=by
 unfold octR
 split
 ·rfl
 ·rw [hn,if_pos h]
theorem oct_good {q:List UInt8} {n:Nat} (h:¬(q=[]∨3 < q.length∨digsR 10 q=false∨(1 < q.length∧q.head? = some 48))) (hn:(numR q).getD 0=n) (h2:¬255 < n):octR q=some n:=by unfold octR;rw [if_neg h,hn,if_neg h2]
theorem four_bad {p:List UInt8} (h:(splitR 46 p).length≠4):fourR p=none:=by unfold fourR;rw [if_neg h]
theorem four_none {p:List UInt8} (h:octsR (splitR 46 p)=none):fourR p=none:=by
 unfold fourR
 split
 ·rw [h];rfl
 ·rfl
theorem four_some {p:List UInt8} {a b c d:Nat} (h4:(splitR 46 p).length=4) (h:octsR (splitR 46 p)=some [a,b,c,d]):fourR p=some [a * 256+b,c * 256+d]:=by unfold fourR;rw [if_pos h4,h];rfl
def PcPost (last:Bool) (l:List UInt8) (w:World) (e:Ending) (w':World):Prop :=
 ((piecesR last l=none∧e=.returned (.tuple #[.slice none 0 0,.bool false]))∨(∃ns v,piecesR last l=some ns∧e=.returned (.tuple #[v,.bool true])∧IOwn w' w.heap.size v (intsIp ns)))∧Below w.heap.size w w'
theorem PcPost.no {last:Bool} {l:List UInt8} {w w':World} (h:piecesR last l=none) (hb:Below w.heap.size w w'):PcPost last l w (.returned (.tuple #[.slice none 0 0,.bool false])) w':=⟨.inl ⟨h,rfl⟩,hb⟩
theorem PcPost.yes {last:Bool} {l:List UInt8} {w w':World} {ns:List Nat} {v:Value} (h:piecesR last l=some ns) (hr:IOwn w' w.heap.size v (intsIp ns)) (hb:Below w.heap.size w w'):PcPost last l w (.returned (.tuple #[v,.bool true])) w':=⟨.inr ⟨ns,v,h,rfl,hr⟩,hb⟩
theorem i64or (x m d k:Nat) (hm:2^k=m) (hx:x * m < 9223372036854775808) (hd:d < m) (hk:k≤62):bits .or .i64 ((x:Int) * (m:Int)) (d:Int)=((x * m+d:Nat):Int):=by
 have h1:=Nat.two_pow_add_eq_or_of_lt (i:=k) (show d < 2^k by omega) x
 have h2:x * m+d=(x * m) ||| d:=by rw [← hm,Nat.mul_comm];exact h1
 have hm2:m≤4611686018427387904:=by rw [← hm];exact Nat.le_trans (Nat.pow_le_pow_right (by decide) hk) (by decide)
 rw [h2,← Int.natCast_mul]
 exact (bits_nat .i64 63 (by decide) (fun n h0 h1=>by rw [IntKind.wrap_i64];omega) (x * m) d (by omega) (by omega)).2
theorem valX_take {p:List UInt8} {b k:Nat} (hk:k < p.length):valX b (p.take (k+1))=valX b (p.take k) * b+dgv p[k]:=by
 rw [List.take_succ_eq_append_getElem hk,valX_snoc]
theorem digs_take {b:Nat} {p:List UInt8} (h:digsR b p=true) (k:Nat):digsR b (p.take k)=true:=by
 unfold digsR at h ⊢
 rw [List.all_eq_true] at h ⊢
 exact fun x hx=>h x (List.mem_of_mem_take hx)
theorem digs_mem {b:Nat} {p:List UInt8} (h:digsR b p=true) {k:Nat} (hk:k < p.length):∃d,hexV p[k].toNat=some d∧d < b∧dgv p[k]=d:=digs_at (t:=strOf p) h hk
theorem twoI_row (w:World) (x y:Int):IRow (w.alloc (.cells #[.int .i64 x,.int .i64 y] 3)) (.slice (some ⟨w.heap.size,0,none⟩) 2 2) [x,y]:=Row.lit fi w [x,y] 3 (0,0) (by simp)
theorem ints_two (ns:List Nat) (x y:Nat):intsIp (ns++[x,y])=intsIp ns++[(x:Int),(y:Int)]:=by simp [intsIp]
theorem stepI_append {w:World} {base:Nat} {v:Value} {xs:List Int} {x:Value} {l:List Int} (hown:IOwn w base v xs) (hrow:IRow w x l) (hlen:xs.length+l.length≤1000000) (hbase:base≤w.heap.size)
 {ops:Array Oper} {o:Oper} {a:Act} {K:Act→World→Prop} {Q:Exit→Act→World→Prop} {E:Prop} (hgd:o.guard=none) (s y:Operand)
 (ho:o.op=.call { callee:=.builtin .append,args:=#[s,y],argTypes:=#[48,48] }) (hty:o.type=48) (hs:a.eval s=v) (hx:a.eval y=x)
 (h:∀v' w',IOwn w' base v' (xs++l)→w.grownBy w' v.ownBlock→K (a.put o.dst v') w') :
 if Region.wanted o (yielded ops a.tmps)=true then Oper.wp Tryz.prog o a w K Q else E:=by
 have hw:Region.wanted o (yielded ops a.tmps)=true:=by simp [Region.wanted,hgd]
 rw [if_pos hw]
 obtain ⟨v',w',hr,ho',hg⟩:=appendI_run hown hrow hlen hbase
 unfold Oper.wp execOp
 simp only [ho,resolve,invoke,builtin,Sem.run_bind,Sem.run_pure,Result.andThen_ok,List.map_toArray,List.map_cons,List.map_nil,hs,hx,hty,hr]
 exact h v' w' ho' hg
theorem pieces_callsIp (last:Bool) (s:ByteArray) (w:World) (hs:s.size≤100000):Calls Tryz.prog 50 #[.string s,.bool last] w fun e w'=>PcPost last s.data.toList w e w':=by
 by_cases h0:s.size=0
 ·have e0:=empty_yes h0
  have HX:Hid (piecesR last s.data.toList=some []):=by show _=_;rw [data_nil h0];rfl
  clear h0
  go_enter Tryz.func50,Tryz.ntmps50
  go_wp2_with fail
  go_ret2
  exact PcPost.yes HX.out (Own.nil _ _ _ _) (Below.refl _ _)
 ·obtain ⟨e0,e1⟩:=empty_no h0
  have HNo:Hid (goP last (splitR 58 s.data.toList)=none→piecesR last s.data.toList=none):=fun h=>by unfold piecesR;rw [if_neg (data_ne h0),h]
  have HYes:Hid (∀ns,goP last (splitR 58 s.data.toList)=some ns→piecesR last s.data.toList=some ns):=fun ns h=>by unfold piecesR;rw [if_neg (data_ne h0),h]
  have HLen:=hid (splitG_len 58 s.data.toList [])
  have HMem:=hid (fun p (h:p∈splitR 58 s.data.toList)=>mem_split (sep:=58) s.data.toList [] p h)
  have HLN:=hid (bytes_num s)
  have HS:=hid hs
  clear h0 hs
  go_enter Tryz.func50,Tryz.ntmps50
  go_wp2_with fail
  refine (split_callsIp s 58 _ HS.out).mono ?_
  rintro e w1 ⟨⟨v,rfl,hv⟩,hb1⟩
  have HB1:=hid hb1
  have HV:=hid hv
  have HLen2:Hid ((splitR 58 s.data.toList).length≤100001):=by
   have h1:=HLen.out
   have h2:=HLN.out
   have h3:=HS.out
   show (splitG 58 [] s.data.toList).length≤100001
   omega
  have HMem2:Hid (∀p∈splitR 58 s.data.toList,p.length≤100000):=by
   intro p hp
   have h1:=HMem.out p hp
   have h2:=HLN.out
   have h3:=HS.out
   simp at h1
   omega
  generalize splitR 58 s.data.toList=ps at *
  obtain ⟨a,cap,rfl,h1,h2,h3⟩:=hv
  unfold maxLen at h2
  clear hb1 h3 HMem HLen HLN
  go_wp2_with fail
  go_loopw [7,8] (fun v i wr=>∃(k:Nat) (ns:List Nat),k≤ps.length∧i=.int .i64 (k:Int)∧ns.length≤2 * k∧GoAt last ps k ns∧IOwn wr w1.heap.size v (intsIp ns)∧Below w1.heap.size w1 wr) (fun _ i _=>ps.length-(intOf i).toNat)
  case atStart=>exact ⟨0,[],Nat.zero_le _,rfl,Nat.le_refl _,GoAt.start last ps,Own.nil _ _ _ _,Below.refl _ _⟩
  case round =>
   obtain ⟨k,ns,hk,rfl,hnl,hga,ho,hb⟩:=hrel
   have HGA:=hid hga
   have HO:=hid ho
   have HB:=hid hb
   have HNL:=hid hnl
   have hn9:=HLen2.out
   have k0:(0:Int)≤(k:Int):=by omega
   have n9:(ps.length:Int)≤100001:=by omega
   clear hga ho hb hnl
   by_cases hlt:k < ps.length
   ·obtain ⟨b,off,rfl,hbl,hc⟩:=row_at HV.out hlt
    have hck:=(HB.out.cell (p:=⟨b,off+k,none⟩) hbl).trans hc
    have HBS:=hid HB.out.size
    have hpl:=HMem2.out _ (List.getElem_mem hlt)
    have HBad0:=hid (fun hn hb=>HGA.out.bad hlt hn hb)
    have HGood0:=hid (fun hn hb=>HGA.out.good hlt hn hb)
    have HFour:=hid (fun hn=>HGA.out.four hlt hn)
    have HK:=hid hlt
    have k1:(k:Int) < (ps.length:Int):=by omega
    clear hc
    generalize ps[k]'hlt=p at *
    have HSplit:=hid (split_callsIp (strOf p) 46)
    rw [str_data] at HSplit
    have HPS:Hid ((strOf p).size≤100000):=hpl
    have sp:(strOf p).size=p.length:=rfl
    have k4:=strOf_list p
    have p9:(p.length:Int)≤100000:=by omega
    have hkn:k≤100001:=by omega
    clear hlt hk hn9 hpl
    cases last with
    | false =>
      have HBad:=hid (fun hb=>HBad0.out (fun e=>by cases e.1) hb)
      have HGood:=hid (fun hb=>HGood0.out (fun e=>by cases e.1) hb)
      clear HBad0 HGood0 HFour HSplit
      by_cases hpe:p=[]
      ·have HX:=hid (HNo.out (HBad.out (.inl hpe)))
       have q1:(p==[])=true:=by rw [hpe];rfl
       have q2:p.isEmpty=true:=by rw [hpe];rfl
       have q3:(strOf p).toList=[]:=by rw [hpe];exact strOf_list []
       clear hpe HBad HGood
       go_wp2_with fail
       go_ret2
       exact PcPost.no HX.out (below_trans HB1.out HB.out)
      ·have q1:(p==[])=false:=beq_eq_false_iff_ne.2 hpe
       have q2:p.isEmpty=false:=by cases p with | nil=>exact absurd rfl hpe | cons x r=>rfl
       by_cases hp4:4 < p.length
       ·have HX:=hid (HNo.out (HBad.out (.inr (.inl hp4))))
        have g4:(4:Int) < (p.length:Int):=by omega
        clear hpe HBad HGood hp4
        go_wp2_with fail
        go_ret2
        exact PcPost.no HX.out (below_trans HB1.out HB.out)
       ·have g4:¬(4:Int) < (p.length:Int):=by omega
        have HDC:=hid (digits_calls (strOf p) 16)
        rw [str_data] at HDC
        have HSz:Hid ((strOf p).size≤100000):=by show p.length≤100000;omega
        cases hd:digsR 16 p with
        | false =>
          have HX:=hid (HNo.out (HBad.out (.inr (.inr hd))))
          rw [hd] at HDC
          clear hpe HBad HGood hp4 hd
          go_wp2_with fail
          refine (HDC.out _ HSz.out (by decide)).mono ?_
          rintro e wz ⟨rfl,rfl⟩
          go_wp2_with fail
          go_ret2
          exact PcPost.no HX.out (below_trans HB1.out HB.out)
        | true =>
          have HG:=hid (HGood.out (by rintro (e | e | e);exact hpe e;exact hp4 e;rw [hd] at e;cases e))
          rw [hd] at HDC
          have HD:=hid hd
          have HP4:Hid (p.length≤4):=by show p.length≤4;omega
          clear hpe HBad HGood hp4 hd
          go_wp2_with fail
          refine (HDC.out _ HSz.out (by decide)).mono ?_
          rintro e wz ⟨rfl,rfl⟩
          go_wp2_with fail
          go_loop [14,15] (fun vn vi=>∃j:Nat,j≤p.length∧vi=.int .i64 (j:Int)∧vn=.int .i64 (valX 16 (p.take j):Nat)) (fun _ vi=>p.length-(intOf vi).toNat)
          case atStart=>exact ⟨0,Nat.zero_le _,rfl,rfl⟩
          case round =>
           obtain ⟨j,hj,rfl,rfl⟩:=hrel
           have j0:(0:Int)≤(j:Int):=by omega
           by_cases hjl:j < p.length
           ·have HV:=hid (valX_take (b:=16) hjl)
            obtain ⟨d,hv,hdb,hdv⟩:=digs_mem HD.out hjl
            rw [hdv] at HV
            have hlt16:=piece_lt (p:=p.take j) (by rw [List.length_take];have:=HP4.out;omega) (digs_take HD.out j)
            have hjs:j < (strOf p).size:=hjl
            obtain ⟨z,hz⟩:∃z,((strOf p)[j]'hjs).toNat=z:=⟨_,rfl⟩
            have hz':(p[j]'hjl).toNat=z:=hz
            have z9:z < 256:=by rw [← hz'];exact byte_lt _
            rw [hz'] at hv
            have HC:=hid (rdigit_calls z z9)
            rw [rd_someIp hv] at HC
            have j1:(j:Int) < (p.length:Int):=by omega
            have HJ:=hid hjl
            generalize valX 16 (p.take j)=q at *
            have pk:=i64or q 16 d 4 (by decide) (by omega) hdb (by decide)
            obtain ⟨y,hy⟩:∃y,q * 16+d=y:=⟨_,rfl⟩
            rw [hy] at pk HV
            have y1:(y:Int) < 2000000:=by omega
            have q9:(q:Int) < 65536:=by omega
            have q0:(0:Int)≤(q:Int):=by omega
            have pk2:bits .or .i64 ((q:Int) * 16) (d:Int)=(y:Int):=pk
            clear hv hdv z9 hj hdb hlt16 hz' hy pk
            go_wp2_with fail
            refine (HC.out _).mono ?_
            rintro e wz ⟨rfl,rfl⟩
            go_wp2_with fail
            go_round
            case rel=>exact ⟨j+1,HJ.out,by go_num,by rw [HV.out]⟩
            case measure=>have:=HJ.out;simp [intOf];omega
           ·have j1:¬(j:Int) < (p.length:Int):=by omega
            have HE:Hid (p.take j=p):=List.take_of_length_le (by omega)
            rw [HE.out]
            have hvl:=piece_lt (p:=p) HP4.out HD.out
            clear hjl hj
            generalize valX 16 p=q at *
            have q9:(q:Int) < 65536:=by omega
            have q0:(0:Int)≤(q:Int):=by omega
            clear hvl
            obtain ⟨v',w4,hr,ho1,hg1⟩:=appendI_run (HO.out.alloc (.cells #[.int .i64 (q:Int)] 3)) (IOwn_one wz (q:Int)) (by rw [ints_len];have:=HNL.out;simp;omega) (by have:=HB.out.size;simp;omega)
            rw [← ints_snoc] at ho1
            have HO1:=hid ho1
            have HB2:=hid ((HB.out.alloc HB.out.size _).grown hg1 (by have:=HB.out.size;simp;omega) (fun k hk=>(World.ownsRow.lt HO.out k hk).1))
            clear ho1 hg1
            go_wp2_with (at_builtin;go_must (refine wpList_append_run hr rfl _ _ rfl rfl rfl rfl ?_))
            go_roundw
            case rel=>exact ⟨k+1,ns++[q],HK.out,by go_num,by rw [List.length_append];have:=HNL.out;simp;omega,HG.out,HO1.out,HB2.out⟩
            case measure=>have:=HK.out;simp [intOf];omega
    | true =>
      by_cases hlast:k+1=ps.length
      ·have g1:((k:Int)==(ps.length:Int)-1)=true:=by rw [beq_iff_eq];omega
       by_cases hone:1 < (splitR 46 p).length
       ·have HF:=hid (HFour.out ⟨rfl,by omega,hone⟩)
        have HL1:=hid hlast
        clear HBad0 HGood0 HFour hlast k4
        have hpd:p.length≤100000:=by omega
        have HQL:Hid (∀q∈splitR 46 p,q.length≤100000):=fun q hq=>by have:=mem_split (sep:=46) p [] q hq;simp at this;omega
        have HBadF:=hid (fun h=>four_bad (p:=p) h)
        have HNoneF:=hid (fun h=>four_none (p:=p) h)
        have HSomeF:=hid (fun a b c d h4 h=>four_some (p:=p) (a:=a) (b:=b) (c:=c) (d:=d) h4 h)
        generalize splitR 46 p=qs at *
        have HONE:=hid hone
        go_wp2_with fail
        refine (HSplit.out _ HPS.out).mono ?_
        rintro e w2 ⟨⟨vq,rfl,hqr⟩,hbq⟩
        obtain ⟨aq,capq,rfl,h1q,h2q,-⟩:=hqr
        unfold maxLen at h2q
        have o1:(1:Int) < (qs.length:Int):=by omega
        replace HB:=hid (HB.out.trans (hbq.mono HB.out.size))
        replace HO:=hid (HO.out.below hbq)
        replace hck:=(hbq.cell (p:=⟨b,off+k,none⟩) (Nat.lt_of_lt_of_le hbl HBS.out)).trans hck
        replace HBS:=hid HB.out.size
        clear hbq hone
        go_wp2_with fail
        refine (HSplit.out _ HPS.out).mono ?_
        rintro e w3 ⟨⟨vq2,rfl,hqr⟩,hbq⟩
        have HQR:=hid hqr
        obtain ⟨aq2,capq2,rfl,h1r,h2r,-⟩:=hqr
        unfold maxLen at h2r
        replace HB:=hid (HB.out.trans (hbq.mono HB.out.size))
        replace HO:=hid (HO.out.below hbq)
        replace HBS:=hid HB.out.size
        clear hbq hck
        by_cases h4:qs.length=4
        ·have f4:((qs.length:Int) != 4)=false:=by rw [h4];rfl
         have HQ4:=hid h4
         clear h4
         go_wp2_with fail
         go_loopw [10,11] (fun v i wr=>∃(j:Nat) (vs:List Nat),j≤4∧i=.int .i64 (j:Int)∧OctAt qs j vs∧IOwn wr w3.heap.size v (intsIp vs)∧Below w3.heap.size w3 wr) (fun _ i _=>4-(intOf i).toNat)
         case atStart=>exact ⟨0,[],Nat.zero_le _,rfl,OctAt.start qs,Own.nil _ _ _ _,Below.refl _ _⟩
         case round =>
          obtain ⟨j,vs,hj,rfl,hoa,ho2,hb2⟩:=hrel
          have HOA:=hid hoa
          have HO2:=hid ho2
          have HBi:=hid hb2
          have j0:(0:Int)≤(j:Int):=by omega
          clear hoa ho2 hb2
          by_cases hj4:j < 4
          ·have hjq:j < qs.length:=by rw [HQ4.out];exact hj4
           obtain ⟨bq,offq,rfl,hblq,hcq⟩:=row_at HQR.out hjq
           have hcj:=(HBi.out.cell (p:=⟨bq,offq+j,none⟩) hblq).trans hcq
           have HONo:=hid (fun h=>HOA.out.none hjq h)
           have HOSt:=hid (fun n h=>HOA.out.step (n:=n) hjq h)
           have hql:=HQL.out _ (List.getElem_mem hjq)
           have j1:(j:Int) < 4:=by omega
           have jq:(j:Int) < (qs.length:Int):=by omega
           have HJ4:=hid hj4
           have hvl:=HOA.out.1
           clear hcq
           generalize qs[j]'hjq=q at *
           have sq:(strOf q).size=q.length:=rfl
           have kq:=strOf_list q
           have HDC:=hid (digits_calls (strOf q) 10)
           rw [str_data] at HDC
           have HNC:=hid (number_calls (strOf q))
           rw [str_data] at HNC
           unfold NumPost at HNC
           have HQS:Hid ((strOf q).size≤100000):=hql
           have HBelow:=hid (below_trans HB1.out (HB.out.trans (HBi.out.mono HB.out.size)))
           have HBO:Hid (∀h:octR q=none,piecesR true s.data.toList=none):=fun h=>HNo.out (by rw [HF.out,HNoneF.out (HONo.out h)];rfl)
           clear hjq hj4 hj
           by_cases hqe:q=[]
           ·have HX:=hid (HBO.out (oct_bad (.inl hqe)))
            have q1:(q==[])=true:=by rw [hqe];rfl
            have q2:q.isEmpty=true:=by rw [hqe];rfl
            have q3:(strOf q).toList=[]:=by rw [hqe];exact strOf_list []
            clear hqe
            go_wp2_with fail
            go_ret2
            exact PcPost.no HX.out HBelow.out
           ·have q1:(q==[])=false:=beq_eq_false_iff_ne.2 hqe
            have q2:q.isEmpty=false:=by cases q with | nil=>exact absurd rfl hqe | cons x r=>rfl
            by_cases hq3:3 < q.length
            ·have HX:=hid (HBO.out (oct_bad (.inr (.inl hq3))))
             have g3:(3:Int) < (q.length:Int):=by omega
             clear hqe hq3
             go_wp2_with fail
             go_ret2
             exact PcPost.no HX.out HBelow.out
            ·have g3:¬(3:Int) < (q.length:Int):=by omega
             cases hd:digsR 10 q with
             | false =>
               have HX:=hid (HBO.out (oct_bad (.inr (.inr (.inl hd)))))
               rw [hd] at HDC
               clear hqe hq3 hd
               go_wp2_with fail
               refine (HDC.out _ HQS.out (by decide)).mono ?_
               rintro e wz ⟨rfl,rfl⟩
               go_wp2_with fail
               go_ret2
               exact PcPost.no HX.out HBelow.out
             | true =>
               rw [hd] at HDC
               have hq0:0 < (strOf q).size:=by rw [sq];exact List.length_pos_iff.2 hqe
               obtain ⟨z,hz⟩:∃z,((strOf q)[0]'hq0).toNat=z:=⟨_,rfl⟩
               have HHead:Hid (q.head? = some ((strOf q)[0]'hq0)):=head_at (s:=strOf q) hq0
               have z9:(z:Int) < 256:=by have:=byte_lt ((strOf q)[0]'hq0);omega
               have z0:(0:Int)≤(z:Int):=by omega
               have gq0:(0:Int) < (q.length:Int):=by rw [sq] at hq0;omega
               by_cases hz48:1 < q.length∧z=48
               ·obtain ⟨hz1,hz2⟩:=hz48
                have HX:=hid (HBO.out (oct_bad (.inr (.inr (.inr ⟨hz1,by rw [HHead.out];exact congrArg some (UInt8.toNat_inj.1 (by rw [hz,hz2];rfl))⟩)))))
                have g1':(1:Int) < (q.length:Int):=by omega
                subst hz2
                clear hqe hq3 hd hz1 HHead z9 z0
                go_wp2_with fail
                refine (HDC.out _ HQS.out (by decide)).mono ?_
                rintro e wz ⟨rfl,rfl⟩
                go_wp2_with fail
                go_ret2
                exact PcPost.no HX.out HBelow.out
               ·have hnb:¬(q=[]∨3 < q.length∨digsR 10 q=false∨(1 < q.length∧q.head? = some 48)):=by
                 rintro (e | e | e | ⟨e,e'⟩)
                 ·exact hqe e
                 ·exact hq3 e
                 ·rw [hd] at e;cases e
                 ·rw [HHead.out] at e'
                  injection e' with e'
                  exact hz48 ⟨e,by rw [← hz,e'];rfl⟩
                obtain ⟨n,hn⟩:∃n,(numR q).getD 0=n:=⟨_,rfl⟩
                have HGr:=hid (fun h=>HBO.out (oct_great hn h))
                have HGo:=hid (fun h=>HOSt.out n (oct_good hnb hn h))
                rw [hn] at HNC
                generalize (numR q).isSome=bb at *
                have hcase:¬(1:Int) < (q.length:Int)∨((1:Int) < (q.length:Int)∧((z:Int)==48)=false):=by
                 by_cases g:1 < q.length
                 ·exact .inr ⟨by omega,by rw [beq_eq_false_iff_ne];intro e;exact hz48 ⟨g,by omega⟩⟩
                 ·exact .inl (by omega)
                have hnl2:n≤1099511627776:=by
                 rw [← hn]
                 cases hnn:numR q with
                 | none=>exact Nat.zero_le _
                 | some x=>exact numR_lt hnn
                have n0:(0:Int)≤(n:Int):=by omega
                clear hnb hqe hq3 hd hz48 HHead hn z9 z0
                by_cases h255:255 < n
                ·have HX:=hid (HGr.out h255)
                 have g5:(255:Int) < (n:Int):=by omega
                 clear h255 hnl2
                 rcases hcase with c1 | ⟨c1,c2⟩
                 all_goals
                  go_wp2_with fail
                  refine (HDC.out _ HQS.out (by decide)).mono ?_
                  rintro e wz ⟨rfl,rfl⟩
                  go_wp2_with fail
                  refine (HNC.out _ HQS.out).mono ?_
                  rintro e wz ⟨rfl,rfl⟩
                  go_wp2_with fail
                  go_ret2
                  exact PcPost.no HX.out HBelow.out
                ·have HN2:=hid (HGo.out h255)
                 have g5:¬(255:Int) < (n:Int):=by omega
                 obtain ⟨v',w4,hr,ho1,hg1⟩:=appendI_run (HO2.out.alloc (.cells #[.int .i64 (n:Int)] 3)) (IOwn_one wr (n:Int)) (by rw [ints_len];simp;omega) (by have:=HBi.out.size;simp;omega)
                 rw [← ints_snoc] at ho1
                 have HO3:=hid ho1
                 have HB3:=hid ((HBi.out.alloc HBi.out.size _).grown hg1 (by have:=HBi.out.size;simp;omega) (fun k hk=>(World.ownsRow.lt HO2.out k hk).1))
                 clear ho1 hg1 h255 hnl2
                 rcases hcase with c1 | ⟨c1,c2⟩
                 all_goals
                  go_wp2_with fail
                  refine (HDC.out _ HQS.out (by decide)).mono ?_
                  rintro e wz ⟨rfl,rfl⟩
                  go_wp2_with fail
                  refine (HNC.out _ HQS.out).mono ?_
                  rintro e wz ⟨rfl,rfl⟩
                  go_wp2_with (at_builtin;go_must (refine wpList_append_run hr rfl _ _ rfl rfl rfl rfl ?_))
                  go_roundw
                  case rel=>exact ⟨j+1,vs++[n],HJ4.out,by go_num,HN2.out,HO3.out,HB3.out⟩
                  case measure=>have:=HJ4.out;simp [intOf];omega
          ·have j1:¬(j:Int) < 4:=by omega
           have hj':j=4:=by omega
           have hoct:=HOA.out.done (by rw [HQ4.out];exact hj4)
           have hvl:=HOA.out.1
           have hv255:=HOA.out.2.1
           obtain ⟨x1,x2,x3,x4,rfl⟩:∃x1 x2 x3 x4,vs=[x1,x2,x3,x4]:=by
            match vs,hvl with
            | [x1,x2,x3,x4],_=>exact ⟨x1,x2,x3,x4,rfl⟩
            | [],h=>exfalso;simp at h;omega
            | [_],h=>exfalso;simp at h;omega
            | [_,_],h=>exfalso;simp at h;omega
            | [_,_,_],h=>exfalso;simp at h;omega
            | _::_::_::_::_::_,h=>exfalso;simp at h;omega
           have y1:=hv255 x1 (by simp)
           have y2:=hv255 x2 (by simp)
           have y3:=hv255 x3 (by simp)
           have y4:=hv255 x4 (by simp)
           have HSome:=hid (HSomeF.out x1 x2 x3 x4 HQ4.out hoct)
           have pk1:=i64or x1 256 x2 8 (by decide) (by omega) (by omega) (by decide)
           have pk2:=i64or x3 256 x4 8 (by decide) (by omega) (by omega) (by decide)
           obtain ⟨r1,hr1⟩:∃r,x1 * 256+x2=r:=⟨_,rfl⟩
           obtain ⟨r2,hr2⟩:∃r,x3 * 256+x4=r:=⟨_,rfl⟩
           rw [hr1] at pk1 HSome
           rw [hr2] at pk2 HSome
           have HG:Hid (GoAt true ps (k+1) (ns++[r1,r2])):=GoAt.end (by rw [HF.out,HSome.out];rfl) (by have:=HL1.out;omega)
           have pk1':bits .or .i64 ((x1:Int) * 256) (x2:Int)=(r1:Int):=pk1
           have pk2':bits .or .i64 ((x3:Int) * 256) (x4:Int)=(r2:Int):=pk2
           have wr1:IntKind.wrap .i64 ((x1:Int) * 256)=(x1:Int) * 256:=by rw [IntKind.wrap_i64];omega
           have wr2:IntKind.wrap .i64 ((x3:Int) * 256)=(x3:Int) * 256:=by rw [IntKind.wrap_i64];omega
           have hrow:=HO2.out.row
           have hgv:=HO2.out.lt
           obtain ⟨ra,rcap,rfl,t1,t2,t3⟩:=hrow
           unfold maxLen at t2
           obtain ⟨gb,go',rfl,hgl,hgc⟩:=t3 (by simp [intsIp])
           have c1:=hgc 0 (by simp [intsIp])
           have c2:=hgc 1 (by simp [intsIp])
           have c3:=hgc 2 (by simp [intsIp])
           have c4:=hgc 3 (by simp [intsIp])
           simp [intsIp] at c1 c2 c3 c4
           have hlen4:(intsIp [x1,x2,x3,x4]).length=4:=rfl
           rw [hlen4] at t1 ⊢
           have hgw3:w3.heap.size≤gb:=hgv gb rfl
           have hsz3:=HBi.out.size
           have hsz1:=HBS.out
           have HOw:=hid (HO.out.below HBi.out)
           have HBw:=hid (HB.out.trans (HBi.out.mono HB.out.size))
           have hne:∀g,u7.ownBlock=some g→g≠gb:=fun g hg e=>by have:=(World.ownsRow.lt HO.out g hg).2;omega
           have HNEB:=hid hne
           have hb1:gb < (wr.alloc (.cells #[.int .i64 (r1:Int),.int .i64 (r2:Int)] 3)).drew.heap.size:=by simp;omega
           have hneb:some gb≠u7.ownBlock:=fun e=>HNEB.out gb e.symm rfl
           have HAL:Hid (∀o,(wr.alloc o).drew.cell? ⟨gb,go',none⟩=wr.cell? ⟨gb,go',none⟩∧(wr.alloc o).drew.cell? ⟨gb,go'+1,none⟩=wr.cell? ⟨gb,go'+1,none⟩∧(wr.alloc o).drew.cell? ⟨gb,go'+2,none⟩=wr.cell? ⟨gb,go'+2,none⟩∧(wr.alloc o).drew.cell? ⟨gb,go'+3,none⟩=wr.cell? ⟨gb,go'+3,none⟩):=fun o=>by
            have hb:=((Below.refl wr.heap.size wr).alloc (Nat.le_refl _) o).drew
            exact ⟨hb.cell (p:=⟨gb,go',none⟩) hgl,hb.cell (p:=⟨gb,go'+1,none⟩) hgl,hb.cell (p:=⟨gb,go'+2,none⟩) hgl,hb.cell (p:=⟨gb,go'+3,none⟩) hgl⟩
           clear hgc hoct hvl hv255 pk1 pk2 hr1 hr2 y1 y2 y3 y4 hgv t3 hj hj4 hj' hne
           go_wp2_with fail
           go_region_held3 (fun w'=>w'.cell? ⟨gb,go',none⟩=some (.int .i64 (x1:Int))∧w'.cell? ⟨gb,go'+1,none⟩=some (.int .i64 (x2:Int))∧w'.cell? ⟨gb,go'+2,none⟩=some (.int .i64 (x3:Int))∧w'.cell? ⟨gb,go'+3,none⟩=some (.int .i64 (x4:Int))) (first | exact ⟨d1,d2,d3,d4⟩ | go_keep) ((refine stepI_append (HOw.out.alloc _).drew (twoI_row wr _ _).drew (by rw [ints_len];have:=HNL.out;simp;omega) (by simp;omega) rfl _ _ rfl rfl rfl rfl ?_;intro v' w5 ho5 hg5;have d1:=((hg5.cell_far ⟨gb,go',none⟩ hb1 hneb).trans (HAL.out _).1).trans c1;have d2:=((hg5.cell_far ⟨gb,go'+1,none⟩ hb1 hneb).trans (HAL.out _).2.1).trans c2;have d3:=((hg5.cell_far ⟨gb,go'+2,none⟩ hb1 hneb).trans (HAL.out _).2.2.1).trans c3;have d4:=((hg5.cell_far ⟨gb,go'+3,none⟩ hb1 hneb).trans (HAL.out _).2.2.2).trans c4))
           all_goals
            rw [← ints_two] at ho5
            have HO5:=hid ho5
            have HB5:=hid ((HBw.out.alloc HBw.out.size _).drew.grown hg5 (by have:=HBw.out.size;simp;omega) (fun k hk=>(World.ownsRow.lt HOw.out k hk).1))
            clear ho5 hg5
            go_wp2_with fail
            go_roundw
            case rel=>exact ⟨k+1,ns++[r1,r2],HK.out,by go_num,by rw [List.length_append];have:=HNL.out;simp;omega,HG.out,HO5.out,HB5.out⟩
            case measure=>have:=HK.out;simp [intOf];omega
        ·have f4:((qs.length:Int) != 4)=true:=by rw [bne_iff_ne];omega
         have HX:=hid (HNo.out (by rw [HF.out,HBadF.out h4];rfl))
         clear h4
         go_wp2_with fail
         go_ret2
         exact PcPost.no HX.out (below_trans HB1.out HB.out)
       ·have o1:¬(1:Int) < ((splitR 46 p).length:Int):=by omega
        have HBad:=hid (fun hb=>HBad0.out (fun e=>hone e.2.2) hb)
        have HGood:=hid (fun hb=>HGood0.out (fun e=>hone e.2.2) hb)
        clear HBad0 HGood0 HFour hlast hone
        by_cases hpe:p=[]
        ·have HX:=hid (HNo.out (HBad.out (.inl hpe)))
         have q1:(p==[])=true:=by rw [hpe];rfl
         have q2:p.isEmpty=true:=by rw [hpe];rfl
         have q3:(strOf p).toList=[]:=by rw [hpe];exact strOf_list []
         clear hpe HBad HGood
         go_wp2_with fail
         refine (HSplit.out _ HPS.out).mono ?_
         rintro e wq ⟨⟨vq,rfl,hqr⟩,hbq⟩
         obtain ⟨aq,capq,rfl,h1q,h2q,-⟩:=hqr
         unfold maxLen at h2q
         replace HB:=hid (HB.out.trans (hbq.mono HB.out.size))
         replace HO:=hid (HO.out.below hbq)
         replace hck:=(hbq.cell (p:=⟨b,off+k,none⟩) (Nat.lt_of_lt_of_le hbl HBS.out)).trans hck
         clear hbq
         go_wp2_with fail
         go_ret2
         exact PcPost.no HX.out (below_trans HB1.out HB.out)
        ·have q1:(p==[])=false:=beq_eq_false_iff_ne.2 hpe
         have q2:p.isEmpty=false:=by cases p with | nil=>exact absurd rfl hpe | cons x r=>rfl
         by_cases hp4:4 < p.length
         ·have HX:=hid (HNo.out (HBad.out (.inr (.inl hp4))))
          have g4:(4:Int) < (p.length:Int):=by omega
          clear hpe HBad HGood hp4
          go_wp2_with fail
          refine (HSplit.out _ HPS.out).mono ?_
          rintro e wq ⟨⟨vq,rfl,hqr⟩,hbq⟩
          obtain ⟨aq,capq,rfl,h1q,h2q,-⟩:=hqr
          unfold maxLen at h2q
          replace HB:=hid (HB.out.trans (hbq.mono HB.out.size))
          replace HO:=hid (HO.out.below hbq)
          replace hck:=(hbq.cell (p:=⟨b,off+k,none⟩) (Nat.lt_of_lt_of_le hbl HBS.out)).trans hck
          clear hbq
          go_wp2_with fail
          go_ret2
          exact PcPost.no HX.out (below_trans HB1.out HB.out)
         ·have g4:¬(4:Int) < (p.length:Int):=by omega
          have HDC:=hid (digits_calls (strOf p) 16)
          rw [str_data] at HDC
          have HSz:Hid ((strOf p).size≤100000):=by show p.length≤100000;omega
          cases hd:digsR 16 p with
          | false =>
            have HX:=hid (HNo.out (HBad.out (.inr (.inr hd))))
            rw [hd] at HDC
            clear hpe HBad HGood hp4 hd
            go_wp2_with fail
            refine (HSplit.out _ HPS.out).mono ?_
            rintro e wq ⟨⟨vq,rfl,hqr⟩,hbq⟩
            obtain ⟨aq,capq,rfl,h1q,h2q,-⟩:=hqr
            unfold maxLen at h2q
            replace HB:=hid (HB.out.trans (hbq.mono HB.out.size))
            replace HO:=hid (HO.out.below hbq)
            replace hck:=(hbq.cell (p:=⟨b,off+k,none⟩) (Nat.lt_of_lt_of_le hbl HBS.out)).trans hck
            clear hbq
            go_wp2_with fail
            refine (HDC.out _ HSz.out (by decide)).mono ?_
            rintro e wz ⟨rfl,rfl⟩
            go_wp2_with fail
            go_ret2
            exact PcPost.no HX.out (below_trans HB1.out HB.out)
          | true =>
            have HG:=hid (HGood.out (by rintro (e | e | e);exact hpe e;exact hp4 e;rw [hd] at e;cases e))
            rw [hd] at HDC
            have HD:=hid hd
            have HP4:Hid (p.length≤4):=by show p.length≤4;omega
            clear hpe HBad HGood hp4 hd
            go_wp2_with fail
            refine (HSplit.out _ HPS.out).mono ?_
            rintro e wq ⟨⟨vq,rfl,hqr⟩,hbq⟩
            obtain ⟨aq,capq,rfl,h1q,h2q,-⟩:=hqr
            unfold maxLen at h2q
            replace HB:=hid (HB.out.trans (hbq.mono HB.out.size))
            replace HO:=hid (HO.out.below hbq)
            replace hck:=(hbq.cell (p:=⟨b,off+k,none⟩) (Nat.lt_of_lt_of_le hbl HBS.out)).trans hck
            clear hbq
            go_wp2_with fail
            refine (HDC.out _ HSz.out (by decide)).mono ?_
            rintro e wz ⟨rfl,rfl⟩
            go_wp2_with fail
            go_loop [14,15] (fun vn vi=>∃j:Nat,j≤p.length∧vi=.int .i64 (j:Int)∧vn=.int .i64 (valX 16 (p.take j):Nat)) (fun _ vi=>p.length-(intOf vi).toNat)
            case atStart=>exact ⟨0,Nat.zero_le _,rfl,rfl⟩
            case round =>
             obtain ⟨j,hj,rfl,rfl⟩:=hrel
             have j0:(0:Int)≤(j:Int):=by omega
             by_cases hjl:j < p.length
             ·have HV:=hid (valX_take (b:=16) hjl)
              obtain ⟨d,hv,hdb,hdv⟩:=digs_mem HD.out hjl
              rw [hdv] at HV
              have hlt16:=piece_lt (p:=p.take j) (by rw [List.length_take];have:=HP4.out;omega) (digs_take HD.out j)
              have hjs:j < (strOf p).size:=hjl
              obtain ⟨z,hz⟩:∃z,((strOf p)[j]'hjs).toNat=z:=⟨_,rfl⟩
              have hz':(p[j]'hjl).toNat=z:=hz
              have z9:z < 256:=by rw [← hz'];exact byte_lt _
              rw [hz'] at hv
              have HC:=hid (rdigit_calls z z9)
              rw [rd_someIp hv] at HC
              have j1:(j:Int) < (p.length:Int):=by omega
              have HJ:=hid hjl
              generalize valX 16 (p.take j)=q at *
              have pk:=i64or q 16 d 4 (by decide) (by omega) hdb (by decide)
              obtain ⟨y,hy⟩:∃y,q * 16+d=y:=⟨_,rfl⟩
              rw [hy] at pk HV
              have y1:(y:Int) < 2000000:=by omega
              have q9:(q:Int) < 65536:=by omega
              have q0:(0:Int)≤(q:Int):=by omega
              have pk2:bits .or .i64 ((q:Int) * 16) (d:Int)=(y:Int):=pk
              clear hv hdv z9 hj hdb hlt16 hz' hy pk
              go_wp2_with fail
              refine (HC.out _).mono ?_
              rintro e wz ⟨rfl,rfl⟩
              go_wp2_with fail
              go_round
              case rel=>exact ⟨j+1,HJ.out,by go_num,by rw [HV.out]⟩
              case measure=>have:=HJ.out;simp [intOf];omega
             ·have j1:¬(j:Int) < (p.length:Int):=by omega
              have HE:Hid (p.take j=p):=List.take_of_length_le (by omega)
              rw [HE.out]
              have hvl:=piece_lt (p:=p) HP4.out HD.out
              clear hjl hj
              generalize valX 16 p=q at *
              have q9:(q:Int) < 65536:=by omega
              have q0:(0:Int)≤(q:Int):=by omega
              clear hvl
              obtain ⟨v',w4,hr,ho1,hg1⟩:=appendI_run (HO.out.alloc (.cells #[.int .i64 (q:Int)] 3)) (IOwn_one wz (q:Int)) (by rw [ints_len];have:=HNL.out;simp;omega) (by have:=HB.out.size;simp;omega)
              rw [← ints_snoc] at ho1
              have HO1:=hid ho1
              have HB2:=hid ((HB.out.alloc HB.out.size _).grown hg1 (by have:=HB.out.size;simp;omega) (fun k hk=>(World.ownsRow.lt HO.out k hk).1))
              clear ho1 hg1
              go_wp2_with (at_builtin;go_must (refine wpList_append_run hr rfl _ _ rfl rfl rfl rfl ?_))
              go_roundw
              case rel=>exact ⟨k+1,ns++[q],HK.out,by go_num,by rw [List.length_append];have:=HNL.out;simp;omega,HG.out,HO1.out,HB2.out⟩
              case measure=>have:=HK.out;simp [intOf];omega
      ·have g1:((k:Int)==(ps.length:Int)-1)=false:=bN (by omega)
       have HBad:=hid (fun hb=>HBad0.out (fun e=>hlast (by have:=HK.out;omega)) hb)
       have HGood:=hid (fun hb=>HGood0.out (fun e=>hlast (by have:=HK.out;omega)) hb)
       clear HBad0 HGood0 HFour HSplit hlast
       by_cases hpe:p=[]
       ·have HX:=hid (HNo.out (HBad.out (.inl hpe)))
        have q1:(p==[])=true:=by rw [hpe];rfl
        have q2:p.isEmpty=true:=by rw [hpe];rfl
        have q3:(strOf p).toList=[]:=by rw [hpe];exact strOf_list []
        clear hpe HBad HGood
        go_wp2_with fail
        go_ret2
        exact PcPost.no HX.out (below_trans HB1.out HB.out)
       ·have q1:(p==[])=false:=beq_eq_false_iff_ne.2 hpe
        have q2:p.isEmpty=false:=by cases p with | nil=>exact absurd rfl hpe | cons x r=>rfl
        by_cases hp4:4 < p.length
        ·have HX:=hid (HNo.out (HBad.out (.inr (.inl hp4))))
         have g4:(4:Int) < (p.length:Int):=by omega
         clear hpe HBad HGood hp4
         go_wp2_with fail
         go_ret2
         exact PcPost.no HX.out (below_trans HB1.out HB.out)
        ·have g4:¬(4:Int) < (p.length:Int):=by omega
         have HDC:=hid (digits_calls (strOf p) 16)
         rw [str_data] at HDC
         have HSz:Hid ((strOf p).size≤100000):=by show p.length≤100000;omega
         cases hd:digsR 16 p with
         | false =>
           have HX:=hid (HNo.out (HBad.out (.inr (.inr hd))))
           rw [hd] at HDC
           clear hpe HBad HGood hp4 hd
           go_wp2_with fail
           refine (HDC.out _ HSz.out (by decide)).mono ?_
           rintro e wz ⟨rfl,rfl⟩
           go_wp2_with fail
           go_ret2
           exact PcPost.no HX.out (below_trans HB1.out HB.out)
         | true =>
           have HG:=hid (HGood.out (by rintro (e | e | e);exact hpe e;exact hp4 e;rw [hd] at e;cases e))
           rw [hd] at HDC
           have HD:=hid hd
           have HP4:Hid (p.length≤4):=by show p.length≤4;omega
           clear hpe HBad HGood hp4 hd
           go_wp2_with fail
           refine (HDC.out _ HSz.out (by decide)).mono ?_
           rintro e wz ⟨rfl,rfl⟩
           go_wp2_with fail
           go_loop [14,15] (fun vn vi=>∃j:Nat,j≤p.length∧vi=.int .i64 (j:Int)∧vn=.int .i64 (valX 16 (p.take j):Nat)) (fun _ vi=>p.length-(intOf vi).toNat)
           case atStart=>exact ⟨0,Nat.zero_le _,rfl,rfl⟩
           case round =>
            obtain ⟨j,hj,rfl,rfl⟩:=hrel
            have j0:(0:Int)≤(j:Int):=by omega
            by_cases hjl:j < p.length
            ·have HV:=hid (valX_take (b:=16) hjl)
             obtain ⟨d,hv,hdb,hdv⟩:=digs_mem HD.out hjl
             rw [hdv] at HV
             have hlt16:=piece_lt (p:=p.take j) (by rw [List.length_take];have:=HP4.out;omega) (digs_take HD.out j)
             have hjs:j < (strOf p).size:=hjl
             obtain ⟨z,hz⟩:∃z,((strOf p)[j]'hjs).toNat=z:=⟨_,rfl⟩
             have hz':(p[j]'hjl).toNat=z:=hz
             have z9:z < 256:=by rw [← hz'];exact byte_lt _
             rw [hz'] at hv
             have HC:=hid (rdigit_calls z z9)
             rw [rd_someIp hv] at HC
             have j1:(j:Int) < (p.length:Int):=by omega
             have HJ:=hid hjl
             generalize valX 16 (p.take j)=q at *
             have pk:=i64or q 16 d 4 (by decide) (by omega) hdb (by decide)
             obtain ⟨y,hy⟩:∃y,q * 16+d=y:=⟨_,rfl⟩
             rw [hy] at pk HV
             have y1:(y:Int) < 2000000:=by omega
             have q9:(q:Int) < 65536:=by omega
             have q0:(0:Int)≤(q:Int):=by omega
             have pk2:bits .or .i64 ((q:Int) * 16) (d:Int)=(y:Int):=pk
             clear hv hdv z9 hj hdb hlt16 hz' hy pk
             go_wp2_with fail
             refine (HC.out _).mono ?_
             rintro e wz ⟨rfl,rfl⟩
             go_wp2_with fail
             go_round
             case rel=>exact ⟨j+1,HJ.out,by go_num,by rw [HV.out]⟩
             case measure=>have:=HJ.out;simp [intOf];omega
            ·have j1:¬(j:Int) < (p.length:Int):=by omega
             have HE:Hid (p.take j=p):=List.take_of_length_le (by omega)
             rw [HE.out]
             have hvl:=piece_lt (p:=p) HP4.out HD.out
             clear hjl hj
             generalize valX 16 p=q at *
             have q9:(q:Int) < 65536:=by omega
             have q0:(0:Int)≤(q:Int):=by omega
             clear hvl
             obtain ⟨v',w4,hr,ho1,hg1⟩:=appendI_run (HO.out.alloc (.cells #[.int .i64 (q:Int)] 3)) (IOwn_one wz (q:Int)) (by rw [ints_len];have:=HNL.out;simp;omega) (by have:=HB.out.size;simp;omega)
             rw [← ints_snoc] at ho1
             have HO1:=hid ho1
             have HB2:=hid ((HB.out.alloc HB.out.size _).grown hg1 (by have:=HB.out.size;simp;omega) (fun k hk=>(World.ownsRow.lt HO.out k hk).1))
             clear ho1 hg1
             go_wp2_with (at_builtin;go_must (refine wpList_append_run hr rfl _ _ rfl rfl rfl rfl ?_))
             go_roundw
             case rel=>exact ⟨k+1,ns++[q],HK.out,by go_num,by rw [List.length_append];have:=HNL.out;simp;omega,HG.out,HO1.out,HB2.out⟩
             case measure=>have:=HK.out;simp [intOf];omega
   ·have k1:¬(k:Int) < (ps.length:Int):=by omega
    have HX:=hid (HYes.out ns (HGA.out.done hlt))
    clear hlt hk
    go_wp2_with fail
    go_ret2
    exact PcPost.yes HX.out (HO.out.mono HB1.out.size) (below_trans HB1.out HB.out)
end Go.Proofs.YtpohekldddbneaaGreatDoor
