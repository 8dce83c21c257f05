import Derived.Test.YtigfgloenjoeoaaGreatDoorLcBH
import Derived.Laws.CopyOwn
import Derived.WalkSmall
import Derived.Deep.RegionHeld3
import Derived.Deep.Cut
set_option linter.unusedVariables false
set_option linter.unusedSimpArgs false
set_option maxRecDepth 20000
set_option maxHeartbeats 16000000
namespace Go.Proofs.YtigfgloenjoeoaaGreatDoor
open Go.RowKit
def rowC (ns:List Nat):List Value:=(ns++List.replicate (8-ns.length) 0).map f16++[.int .i64 (ns.length:Int)]
theorem rowC_len {ns:List Nat} (h:ns.length≤8):(rowC ns).length=9:=by unfold rowC;simp;omega
theorem rowC_last {ns:List Nat} (h:ns.length≤8):(rowC ns)[8]'(by rw [rowC_len h];decide)=.int .i64 (ns.length:Int):=by
 unfold rowC
 rw [List.getElem_append_right (by simp;omega)]
 simp
theorem splice_eq {ns a:List Nat} (h:ns.length+a.length≤8):splice (rowC ns) ns.length (a.map f16)=(ns++a++List.replicate (8-(ns++a).length) 0).map f16++[.int .i64 (ns.length:Int)]:=by
 unfold splice rowC
 simp only [List.map_append,List.length_map,List.map_replicate,List.append_assoc,List.length_append]
 rw [List.take_append_of_le_length (by simp),List.take_of_length_le (by simp)]
 congr 2
 rw [List.drop_append,List.drop_of_length_le (by simp),List.nil_append,List.length_map,Nat.add_sub_cancel_left,List.drop_append,List.drop_replicate,List.length_replicate,
  show a.length-(8-ns.length)=0 by omega,List.drop_zero,show 8-ns.length-a.length=8-(ns.length+a.length) by omega]
theorem rowC_put {ns a:List Nat} (h:ns.length+a.length≤8):(splice (rowC ns) ns.length (a.map f16)).set 8 (.int .i64 ((ns.length+a.length:Nat):Int))=rowC (ns++a):=by
 have e:=splice_eq h
 rw [e]
 unfold rowC
 rw [List.set_append_right _ _ (by simp;omega)]
 have hz:8-((ns++a++List.replicate (8-(ns++a).length) 0).map f16).length=0:=by simp;omega
 rw [hz,List.set_cons_zero,List.length_append]
theorem rowC_eight {ns:List Nat} (h:ns.length≤8):∃x0 x1 x2 x3 x4 x5 x6 x7,ns++List.replicate (8-ns.length) 0=[x0,x1,x2,x3,x4,x5,x6,x7]:=eight (by simp;omega)
theorem rowC_start (w:World):Bk9 (w.alloc (.cells #[.int .u16 0,.int .u16 0,.int .u16 0,.int .u16 0,.int .u16 0,.int .u16 0,.int .u16 0,.int .u16 0,.int .i64 0] 153)) w.heap.size (rowC []):=heap_alloc_new w _
theorem one_f16 {a:List Nat}:∀v∈a.map f16,v.oneCell'=true:=fun v hv=>by obtain ⟨x,_,rfl⟩:=List.mem_map.1 hv;rfl
theorem row_src {w:World} {N:Nat} {x0 x1 x2 x3 x4 x5 x6 x7:Nat} {v:Value} {a:List Nat} (h:Bk9 w N [.int .u16 (x0:Int),.int .u16 (x1:Int),.int .u16 (x2:Int),.int .u16 (x3:Int),.int .u16 (x4:Int),.int .u16 (x5:Int),.int .u16 (x6:Int),.int .u16 (x7:Int),v])
 (hx:[x0,x1,x2,x3,x4,x5,x6,x7]=a++List.replicate (8-a.length) 0) (ha:a.length≤8):∀j u,(a.map f16)[j]? = some u→w.cell? ((⟨N,0,none⟩:Addr).add j)=some u:=by
 intro j u hj
 have hadd:(⟨N,0,none⟩:Addr).add j=⟨N,j,none⟩:=by unfold Addr.add;split<;>simp_all
 have hjl:j < a.length:=by
  rcases Nat.lt_or_ge j a.length with h' | h'
  ·exact h'
  ·rw [List.getElem?_eq_none (by simpa using h')] at hj;cases hj
 have hc:=(h.cell j (by simp;omega)).1
 rw [hadd,hc]
 have e:([x0,x1,x2,x3,x4,x5,x6,x7].map f16++[v])=[.int .u16 (x0:Int),.int .u16 (x1:Int),.int .u16 (x2:Int),.int .u16 (x3:Int),.int .u16 (x4:Int),.int .u16 (x5:Int),.int .u16 (x6:Int),.int .u16 (x7:Int),v]:=rfl
 rw [← hj,← List.getElem?_eq_getElem (by simp;omega),← e,List.getElem?_append_left (by simp;omega),hx,List.map_append,List.getElem?_append_left (by simpa using hjl)]
theorem pcut_at {r a b:List UInt8} {m:Bool} (h:Lib.cut r [58]=(a,b,m)) (w:World) (hr:r.length≤100000) (hm:MaxL w):Calls Tryz.prog 146 #[.string (strOf r),.string ⟨#[58]⟩] w fun e w'=>e=.returned (.tuple #[.string (strOf a),.string (strOf b),.bool m])∧Below w.heap.size w w'∧MaxL w':=by
 refine (pcutc_calls (strOf r) ⟨#[58]⟩ w (by rw [str_size];omega) hm).mono ?_
 rintro e w' ⟨rfl,n,rfl⟩
 have e:Lib.cut (strOf r).data.toList (⟨#[58]⟩:ByteArray).data.toList=(a,b,m):=h
 rw [e]
 have hb:Below w.heap.size w (w.drewN n):=below_drewN (Below.refl _ _) n
 exact ⟨rfl,hb,hm.below hb⟩
theorem octs_len:∀(qs:List (List UInt8)) (vs:List Nat),octsR qs=some vs→vs.length=qs.length
 | [],vs,h=>by have:vs=[]:=(Option.some.inj h).symm;rw [this];rfl
 | q::r,vs,h=>by
   have e:octsR (q::r)=match octR q with
    | none=>none
    | some n=>(octsR r).map (n::·):=rfl
   rw [e] at h
   cases hq:octR q with
   | none=>rw [hq] at h;cases h
   | some n =>
     rw [hq] at h
     cases hr:octsR r with
     | none=>rw [hr] at h;cases h
     | some us =>
       rw [hr] at h
       have:vs=n::us:=(Option.some.inj h).symm
       rw [this,List.length_cons,List.length_cons,octs_len r us hr]
theorem pcR_pos {dec:Bool} {p:List UInt8} {a:List Nat} (h:pcR dec p=some a):1≤a.length:=by
 unfold pcR at h
 split at h
 ·unfold fourR at h
  split at h
  ·rename_i h4
   cases ho:octsR (splitR 46 p) with
   | none=>rw [ho] at h;cases h
   | some vs =>
     rw [ho] at h
     have hl:vs.length=4:=by
      have:=octs_len _ _ ho
      omega
     obtain ⟨x,y,z,u,rfl⟩:=four4 hl
     have:a=[x * 256+y,z * 256+u]:=(Option.some.inj h).symm
     rw [this]
     simp
  ·cases h
 ·split at h
  ·cases h
  ·have:=(Option.some.inj h).symm
   rw [this]
   simp
theorem step_copy_row {P:Program} {ops:Array Oper} {o:Oper} {a:Act} {w:World} {K:Act→World→Prop} {Q:Exit→Act→World→Prop} {E:Prop} (hgd:o.guard=none) (d s:Operand) (dT sT:TypeId)
 (ho:o.op=.call { callee:=.builtin .copy,args:=#[d,s],argTypes:=#[dT,sT] }) (elem:TypeId) (hu:P.underlying dT=some (.slice elem)) (hsz:(P.info? elem).map (·.size)=some 1)
 (g off:Nat) (ad:Addr) (dLen dCap sLen sCap:Nat) (hd:a.eval d=.slice (some ⟨g,off,none⟩) dLen dCap) (hs:a.eval s=.slice (some ad) sLen sCap)
 (cur:Array Value) (t:TypeId) (hg:w.heap[g]? = some (.cells cur t (0,0))) (cs:List Value) (hn:cs.length=Nat.min sLen dLen)
 (hsrc:∀j v,cs[j]? = some v→w.cell? (ad.add j)=some v)
 (hfit:off+cs.length≤cur.size) (h1:∀v∈cs,v.oneCell'=true)
 (h:∀w',w'=w.setRow g (cur.toList.take off++cs++cur.toList.drop (off+cs.length)).toArray→K (a.put o.dst (goInt cs.length)) w') :
 if Region.wanted o (yielded ops a.tmps)=true then Oper.wp P o a w K Q else E:=by
 have hw:Region.wanted o (yielded ops a.tmps)=true:=by simp [Region.wanted,hgd]
 rw [if_pos hw]
 have hrun:=run_copy_row (P:=P) w dT sT o.type elem g off dLen dCap ad sLen sCap cur t cs hu hsz hg hn hsrc hfit h1
 unfold Oper.wp
 simp [execOp,ho,resolve,invoke,builtin,hd,hs,hrun,Result.andThen]
 exact h _ (by simp)
def Copied (w w':World) (R:Nat) (vs:List Value) (t:TypeId):Prop:=w'.heap[R]? = some (.cells vs.toArray t)∧(∀k,k≠R→w'.heap[k]? = w.heap[k]?)∧w'.heap.size=w.heap.size∧∀B w0,Below B w0 w→B≤R→Below B w0 w'
theorem copied_of {w w':World} {R off:Nat} {cur:List Value} {cs:List Value} {t:TypeId} (hg:w.heap[R]? = some (.cells cur.toArray t)) (hw:w'=w.drew.setRow R (cur.toArray.toList.take off++cs++cur.toArray.toList.drop (off+cs.length)).toArray):Copied w w' R (splice cur off cs) t:=by
 subst hw
 refine ⟨?_,fun k hk=>?_,by simp [World.setRow],fun B w0 hb hB=>below_setRow hb.drew hB _⟩
 ·have:=setRow_heap w.drew R _ (cur.toArray.toList.take off++cs++cur.toArray.toList.drop (off+cs.length)).toArray t _ hg
  rw [this]
  unfold splice
  simp
 ·exact setRow_other w.drew R k _ hk
theorem Copied.bk {w w':World} {R:Nat} {vs:List Value} (h:Copied w w' R vs 153):Bk9 w' R vs:=by
 show w'.heap[R]? = some (.cells (vs.map idV).toArray _)
 rw [h.1,show vs.map idV=vs from List.map_id vs]
theorem Copied.other {α:Type} {f:α→Value} {u:TypeId} {w w':World} {R:Nat} {vs:List Value} {t:TypeId} (h:Copied w w' R vs t) {g:Nat} {xs:List α} (hb:Bk f u w g xs) (hg:g≠R):Bk f u w' g xs:=by
 unfold Bk at hb ⊢
 rw [h.2.1 g hg,hb]
theorem splice_len {ns a:List Nat} (h:ns.length+a.length≤8):(splice (rowC ns) ns.length (a.map f16)).length=9:=by
 rw [length_splice _ _ _ (by rw [rowC_len (by omega),List.length_map];omega),rowC_len (by omega)]
theorem splice_last {ns a:List Nat} (h:ns.length+a.length≤8):(splice (rowC ns) ns.length (a.map f16))[8]'(by rw [splice_len h];decide)=.int .i64 (ns.length:Int):=by
 have e:splice (rowC ns) ns.length (a.map f16)=(ns++a++List.replicate (8-(ns++a).length) 0).map f16++[.int .i64 (ns.length:Int)]:=splice_eq h
 simp only [e]
 rw [List.getElem_append_right (by simp;omega)]
 simp
def msr:Value→Value→Nat
 | .string s,.bool true=>s.size+1
 | _,_=>0
theorem prow_false (s:ByteArray) (w:World) (hs:s.size≤100000) (hm:MaxL w):Calls Tryz.prog 147 #[.string s,.bool false] w fun e w'=>RPost (rowR false s.data.toList) w e w':=by
 have HS:=hid hs
 obtain ⟨mo,hmo⟩:∃mo:Bool,s.toList.isEmpty=!mo:=⟨!s.toList.isEmpty,by simp⟩
 have HSt:Hid (RowAt false s.data.toList mo s.data.toList []):=by
  show RowAt false s.data.toList mo s.data.toList []
  by_cases h0:s.size=0
  ·rw [empty_yes h0] at hmo
   have hm2:mo=false:=by cases mo;rfl;cases hmo
   rw [hm2,data_nil h0]
   exact RowAt.start0 _ _
  ·rw [(empty_no h0).2] at hmo
   have hm2:mo=true:=by cases mo;cases hmo;rfl
   rw [hm2]
   exact RowAt.start1 (data_ne h0)
 have HLN:=hid (bytes_num s)
 have HG0:=hid ((zero9_world w).below ((Below.refl _ _).alloc (Nat.le_refl _) (.cells #[.int .u16 0,.int .u16 0,.int .u16 0,.int .u16 0,.int .u16 0,.int .u16 0,.int .u16 0,.int .u16 0,.int .i64 0] 153)))
 have HR0:Hid (Bk9 ((w.alloc (.cells #[.int .u16 0,.int .u16 0,.int .u16 0,.int .u16 0,.int .u16 0,.int .u16 0,.int .u16 0,.int .u16 0,.int .i64 0] 153)).alloc (.cells #[.int .u16 0,.int .u16 0,.int .u16 0,.int .u16 0,.int .u16 0,.int .u16 0,.int .u16 0,.int .u16 0,.int .i64 0] 153)) (w.heap.size+1) (rowC [])):=by
  have h:=rowC_start (w.alloc (.cells #[.int .u16 0,.int .u16 0,.int .u16 0,.int .u16 0,.int .u16 0,.int .u16 0,.int .u16 0,.int .u16 0,.int .i64 0] 153))
  rw [show (w.alloc (.cells #[.int .u16 0,.int .u16 0,.int .u16 0,.int .u16 0,.int .u16 0,.int .u16 0,.int .u16 0,.int .u16 0,.int .i64 0] 153)).heap.size=w.heap.size+1 by simp] at h
  exact h
 have HB0:=hid (((Below.refl w.heap.size w).alloc (Nat.le_refl _) (.cells #[.int .u16 0,.int .u16 0,.int .u16 0,.int .u16 0,.int .u16 0,.int .u16 0,.int .u16 0,.int .u16 0,.int .i64 0] 153)).alloc (by simp) (.cells #[.int .u16 0,.int .u16 0,.int .u16 0,.int .u16 0,.int .u16 0,.int .u16 0,.int .u16 0,.int .u16 0,.int .i64 0] 153))
 have HM0:=hid (hm.below HB0.out)
 have HMw:=hid hm
 obtain ⟨L,hL⟩:∃L,s.data.toList=L:=⟨_,rfl⟩
 have HL:=hid hL
 rw [hL] at HSt HLN ⊢
 clear hs hm hL
 go_enter Tryz.func147,Tryz.ntmps147
 go_wp2_with fail
 obtain ⟨G,hG⟩:∃G,w.heap.size=G:=⟨_,rfl⟩
 have HGl:Hid (w.heap.size≤G):=Nat.le_of_eq hG
 obtain ⟨R,hR⟩:∃R,w.heap.size+1=R:=⟨_,rfl⟩
 have HRl:Hid (w.heap.size≤R):=by show _≤_;omega
 have HGR:Hid (G≠R):=by show¬_;omega
 rw [hR] at HR0 ⊢
 rw [hG] at HG0
 have hGp:(Value.pointer (some ⟨w.heap.size,0,none⟩))=Value.pointer (some ⟨G,0,none⟩):=by rw [hG]
 rw [hGp]
 clear hR hG hGp
 go_loopw [7,8] (fun rest more wr=>∃(mo:Bool) (r:List UInt8) (ns:List Nat),rest=.string (strOf r)∧more=.bool mo∧RowAt false L mo r ns∧r.length≤100000∧Bk9 wr R (rowC ns)∧Bk9 wr G zero9∧Below w.heap.size w wr∧MaxL wr) (fun rest more _=>msr rest more)
 case atStart=>exact ⟨mo,L,[],by rw [← HL.out];rfl,rfl,HSt.out,by rw [HLN.out];exact HS.out,HR0.out,HG0.out,HB0.out,HM0.out⟩
 case round =>
  obtain ⟨mr,r,ns,rfl,rfl,hat,hrl,hbR,hbG,hb,hmx⟩:=hrel
  have HAt:=hid hat
  have HRl2:=hid hrl
  have HBR:=hid hbR
  have HBG:=hid hbG
  have HB:=hid hb
  have HMx:=hid hmx
  have HN8:=hid hat.1
  clear hat hrl hbR hbG hb hmx HG0 HR0 HB0 HM0 HSt hmo
  cases mr with
  | false =>
    have HX:=hid HAt.out.done
    obtain ⟨x0,x1,x2,x3,x4,x5,x6,x7,h8⟩:=rowC_eight HN8.out
    have HBR2:=HBR.out
    unfold rowC at HBR2
    rw [h8] at HBR2
    obtain ⟨⟨d0,d1,d2,d3,d4,d5,d6,d7,d8⟩,-⟩:=cells9 HBR2
    have HFin:=hid (fun w' (hb:Below w.heap.size w w')=>RPost.yes (w:=w) (w':=w') x0 x1 x2 x3 x4 x5 x6 x7 ns.length HX.out rfl HN8.out h8.symm hb)
    obtain ⟨⟨c0,c1,c2,c3,c4,c5,c6,c7,c8⟩,⟨f0,f1,f2,f3,f4,f5,f6,f7,f8⟩⟩:=cells9 (y0:=.int .u16 0) (y1:=.int .u16 0) (y2:=.int .u16 0) (y3:=.int .u16 0) (y4:=.int .u16 0) (y5:=.int .u16 0) (y6:=.int .u16 0) (y7:=.int .u16 0) (y8:=.int .i64 0) HBG.out
    have HFill:=hid (fill9 (y0:=.int .u16 0) (y1:=.int .u16 0) (y2:=.int .u16 0) (y3:=.int .u16 0) (y4:=.int .u16 0) (y5:=.int .u16 0) (y6:=.int .u16 0) (y7:=.int .u16 0) (y8:=.int .i64 0) HBG.out HB.out HGl.out HB.out.size (.int .u16 (x0:Int)) (.int .u16 (x1:Int)) (.int .u16 (x2:Int)) (.int .u16 (x3:Int)) (.int .u16 (x4:Int)) (.int .u16 (x5:Int)) (.int .u16 (x6:Int)) (.int .u16 (x7:Int)) (.int .i64 (ns.length:Int)))
    generalize ns.length=nc at *
    clear h8 HBR2 HX
    unfold f16 at d0 d1 d2 d3 d4 d5 d6 d7
    go_wp2_with fail
    generalize (((((((((wr.setCell ⟨G,0,none⟩ (.int .u16 (x0:Int))).setCell ⟨G,1,none⟩ (.int .u16 (x1:Int))).setCell ⟨G,2,none⟩ (.int .u16 (x2:Int))).setCell ⟨G,3,none⟩ (.int .u16 (x3:Int))).setCell ⟨G,4,none⟩ (.int .u16 (x4:Int))).setCell ⟨G,5,none⟩ (.int .u16 (x5:Int))).setCell ⟨G,6,none⟩ (.int .u16 (x6:Int))).setCell ⟨G,7,none⟩ (.int .u16 (x7:Int))).setCell ⟨G,8,none⟩ (.int .i64 (nc:Int)))=W9 at *
    obtain ⟨⟨g0,g1,g2,g3,g4,g5,g6,g7,g8⟩,-⟩:=cells9 HFill.out.1
    have HBL:=hid HFill.out.2
    clear HFill c0 c1 c2 c3 c4 c5 c6 c7 c8 f0 f1 f2 f3 f4 f5 f6 f7 f8
    refine bodyPost_ret (by simp [results,Tryz.results147,go_sem,g0,g1,g2,g3,g4,g5,g6,g7,g8];try rfl) rfl ?_
    exact HFin.out _ HBL.out
  | true =>
    rcases cut_colon r with ⟨hcut,hsp⟩ | ⟨ra,rb,hcut,hsp,hlen⟩
    ·have HTL:=hid HRl2.out
     have HRst:Hid (([]:List UInt8).length≤100000):=Nat.zero_le _
     go_wp2_with fail
     refine (pcut_at hcut _ HRl2.out HMx.out).mono ?_
     rintro e wc ⟨rfl,hbc,hmc⟩
     have HMc:=hid hmc
     have HBc:=hid hbc
     clear hbc hmc
     go_wp2_with fail
     refine (pread_calls false (strOf r) _ HTL.out).mono ?_
     rintro e w3 ⟨v,⟨x0,x1,x2,x3,x4,x5,x6,x7,c,rfl,hc8,hns⟩,rfl,hb3⟩
     rw [str_data] at hns
     rw [str_data]
     have HNS:=hid hns
     have HC8:=hid hc8
     have hall:Below wr.heap.size wr w3:=below_trans HBc.out hb3
     have HAll:=hid (hall.alloc hall.size (.cells #[.int .u16 (x0:Int),.int .u16 (x1:Int),.int .u16 (x2:Int),.int .u16 (x3:Int),.int .u16 (x4:Int),.int .u16 (x5:Int),.int .u16 (x6:Int),.int .u16 (x7:Int),.int .i64 (c:Int)] 153))
     have HSz:=hid hall.size
     have HNew:Hid (Bk9 (w3.alloc (.cells #[.int .u16 (x0:Int),.int .u16 (x1:Int),.int .u16 (x2:Int),.int .u16 (x3:Int),.int .u16 (x4:Int),.int .u16 (x5:Int),.int .u16 (x6:Int),.int .u16 (x7:Int),.int .i64 (c:Int)] 153)) w3.heap.size [.int .u16 (x0:Int),.int .u16 (x1:Int),.int .u16 (x2:Int),.int .u16 (x3:Int),.int .u16 (x4:Int),.int .u16 (x5:Int),.int .u16 (x6:Int),.int .u16 (x7:Int),.int .i64 (c:Int)]):=heap_alloc_new w3 _
     clear hns hc8 hall hb3 HBc HMc
     have c0':(0:Int)≤(c:Int):=by omega
     have c8':(c:Int)≤8:=by have:=HC8.out;omega
     obtain ⟨nl,hnl⟩:∃nl,ns.length=nl:=⟨_,rfl⟩
     have HNL:=hid hnl
     have n0':(0:Int)≤(nl:Int):=by omega
     have n8':(nl:Int)≤8:=by have:=HN8.out;omega
     cases hp:pcR false r with
     | none =>
       have HX:=hid (HAt.out.one_none hsp hp)
       simp only [Option.isSome_none]
       clear hp hnl
       go_upto_region 7 with fail
       generalize w3.alloc (.cells #[.int .u16 (x0:Int),.int .u16 (x1:Int),.int .u16 (x2:Int),.int .u16 (x3:Int),.int .u16 (x4:Int),.int .u16 (x5:Int),.int .u16 (x6:Int),.int .u16 (x7:Int),.int .i64 (c:Int)] 153)=w4 at *
       generalize w3.heap.size=N at *
       have HB4:=hid (below_trans HB.out HAll.out)
       have HG4:=hid (HBG.out.below HAll.out)
       obtain ⟨⟨c0,c1,c2,c3,c4,c5,c6,c7,c8⟩,⟨f0,f1,f2,f3,f4,f5,f6,f7,f8⟩⟩:=cells9 (y0:=.int .u16 0) (y1:=.int .u16 0) (y2:=.int .u16 0) (y3:=.int .u16 0) (y4:=.int .u16 0) (y5:=.int .u16 0) (y6:=.int .u16 0) (y7:=.int .u16 0) (y8:=.int .i64 0) HG4.out
       have HFill:=hid (fill9 (y0:=.int .u16 0) (y1:=.int .u16 0) (y2:=.int .u16 0) (y3:=.int .u16 0) (y4:=.int .u16 0) (y5:=.int .u16 0) (y6:=.int .u16 0) (y7:=.int .u16 0) (y8:=.int .i64 0) HG4.out HB4.out HGl.out HB4.out.size (.int .u16 0) (.int .u16 0) (.int .u16 0) (.int .u16 0) (.int .u16 0) (.int .u16 0) (.int .u16 0) (.int .u16 0) (.int .i64 0))
       go_wp2_with fail
       generalize (((((((((w4.setCell ⟨G,0,none⟩ (.int .u16 0)).setCell ⟨G,1,none⟩ (.int .u16 0)).setCell ⟨G,2,none⟩ (.int .u16 0)).setCell ⟨G,3,none⟩ (.int .u16 0)).setCell ⟨G,4,none⟩ (.int .u16 0)).setCell ⟨G,5,none⟩ (.int .u16 0)).setCell ⟨G,6,none⟩ (.int .u16 0)).setCell ⟨G,7,none⟩ (.int .u16 0)).setCell ⟨G,8,none⟩ (.int .i64 0))=W9 at *
       obtain ⟨⟨g0,g1,g2,g3,g4,g5,g6,g7,g8⟩,-⟩:=cells9 HFill.out.1
       have HBL:=hid HFill.out.2
       clear HFill c0 c1 c2 c3 c4 c5 c6 c7 c8 f0 f1 f2 f3 f4 f5 f6 f7 f8
       refine bodyPost_ret (by simp [results,Tryz.results147,go_sem,g0,g1,g2,g3,g4,g5,g6,g7,g8];try rfl) rfl ?_
       exact RPost.no 0 0 0 0 0 0 0 0 0 (by decide) HX.out HBL.out
     | some a =>
       obtain ⟨hca,hx⟩:=HNS.out a hp
       simp only [Option.isSome_some]
       by_cases hm8:8 < nl+c
       ·have HX:=hid (HAt.out.one_many hsp hp (by omega))
        have g1:(8:Int) < (nl:Int)+(c:Int):=by omega
        clear hp hca hx hm8
        go_upto_region 7 with fail
        generalize w3.alloc (.cells #[.int .u16 (x0:Int),.int .u16 (x1:Int),.int .u16 (x2:Int),.int .u16 (x3:Int),.int .u16 (x4:Int),.int .u16 (x5:Int),.int .u16 (x6:Int),.int .u16 (x7:Int),.int .i64 (c:Int)] 153)=w4 at *
        generalize w3.heap.size=N at *
        have HB4:=hid (below_trans HB.out HAll.out)
        have HG4:=hid (HBG.out.below HAll.out)
        have HR4:=HBR.out.below HAll.out
        have r8:=(HR4.cell 8 (by rw [rowC_len HN8.out];decide)).1
        rw [rowC_last HN8.out,hnl] at r8
        have m8:=(HNew.out.cell 8 (by show 8 < 9;decide)).1
        change w4.cell? ⟨N,8,none⟩=some (.int .i64 (c:Int)) at m8
        change w4.cell? ⟨R,8,none⟩=some (.int .i64 (nl:Int)) at r8
        obtain ⟨⟨c0,c1,c2,c3,c4,c5,c6,c7,c8⟩,⟨f0,f1,f2,f3,f4,f5,f6,f7,f8⟩⟩:=cells9 (y0:=.int .u16 0) (y1:=.int .u16 0) (y2:=.int .u16 0) (y3:=.int .u16 0) (y4:=.int .u16 0) (y5:=.int .u16 0) (y6:=.int .u16 0) (y7:=.int .u16 0) (y8:=.int .i64 0) HG4.out
        have HFill:=hid (fill9 (y0:=.int .u16 0) (y1:=.int .u16 0) (y2:=.int .u16 0) (y3:=.int .u16 0) (y4:=.int .u16 0) (y5:=.int .u16 0) (y6:=.int .u16 0) (y7:=.int .u16 0) (y8:=.int .i64 0) HG4.out HB4.out HGl.out HB4.out.size (.int .u16 0) (.int .u16 0) (.int .u16 0) (.int .u16 0) (.int .u16 0) (.int .u16 0) (.int .u16 0) (.int .u16 0) (.int .i64 0))
        clear HR4 hnl
        go_wp2_with fail
        generalize (((((((((w4.setCell ⟨G,0,none⟩ (.int .u16 0)).setCell ⟨G,1,none⟩ (.int .u16 0)).setCell ⟨G,2,none⟩ (.int .u16 0)).setCell ⟨G,3,none⟩ (.int .u16 0)).setCell ⟨G,4,none⟩ (.int .u16 0)).setCell ⟨G,5,none⟩ (.int .u16 0)).setCell ⟨G,6,none⟩ (.int .u16 0)).setCell ⟨G,7,none⟩ (.int .u16 0)).setCell ⟨G,8,none⟩ (.int .i64 0))=W9 at *
        obtain ⟨⟨g0,g1,g2,g3,g4,g5,g6,g7,g8⟩,-⟩:=cells9 HFill.out.1
        have HBL:=hid HFill.out.2
        clear HFill c0 c1 c2 c3 c4 c5 c6 c7 c8 f0 f1 f2 f3 f4 f5 f6 f7 f8
        refine bodyPost_ret (by simp [results,Tryz.results147,go_sem,g0,g1,g2,g3,g4,g5,g6,g7,g8];try rfl) rfl ?_
        exact RPost.no 0 0 0 0 0 0 0 0 0 (by decide) HX.out HBL.out
       ·have HAt2:=hid (HAt.out.one hsp hp (by omega) [])
        have g1:¬(8:Int) < (nl:Int)+(c:Int):=by omega
        have HCA:=hid hca
        have HC1:Hid (1≤c):=by show 1≤c;rw [hca];exact pcR_pos hp
        have HXX:=hid hx
        have HM8:=hid hm8
        clear hp hca hx hm8
        go_upto_region 7 with fail
        have HNR:Hid (w3.heap.size≠R):=by have h1:=HBR.out.lt;have h2:=HSz.out;show¬_;omega
        generalize w3.alloc (.cells #[.int .u16 (x0:Int),.int .u16 (x1:Int),.int .u16 (x2:Int),.int .u16 (x3:Int),.int .u16 (x4:Int),.int .u16 (x5:Int),.int .u16 (x6:Int),.int .u16 (x7:Int),.int .i64 (c:Int)] 153)=w4 at *
        generalize w3.heap.size=N at *
        have HB4:=hid (below_trans HB.out HAll.out)
        have HG4:=hid (HBG.out.below HAll.out)
        have HR4:=hid (HBR.out.below HAll.out)
        have r8:=(HR4.out.cell 8 (by rw [rowC_len HN8.out];decide)).1
        rw [rowC_last HN8.out,hnl] at r8
        have m8:=(HNew.out.cell 8 (by show 8 < 9;decide)).1
        change w4.cell? ⟨N,8,none⟩=some (.int .i64 (c:Int)) at m8
        change w4.cell? ⟨R,8,none⟩=some (.int .i64 (nl:Int)) at r8
        have hc1:=HC1.out
        have nn:(nl:Int) < 8:=by have:=HM8.out;omega
        have nne:(nl=8)=False:=by simp;omega
        have hcl:c≤8:=HC8.out
        have HGr:Hid (w4.drew.heap[R]? = some (.cells (rowC ns).toArray 153)):=by
         have h:=HR4.out
         rw [show (rowC ns)=(rowC ns).map idV from (List.map_id _).symm]
         exact h
        have HGr4:Hid (w4.heap[R]? = some (.cells (rowC ns).toArray 153)):=HGr.out
        have hal:a.length≤8:=by rw [← HCA.out];exact hcl
        have HSrc:Hid (∀j u,(a.map f16)[j]? = some u→w4.drew.cell? ((⟨N,0,none⟩:Addr).add j)=some u):=row_src HNew.out HXX.out hal
        have HN1:Hid ((a.map f16).length=Nat.min c (8-nl)):=by
         show _=_
         rw [List.length_map,← HCA.out]
         have:=HM8.out
         exact (Nat.min_eq_left (by omega)).symm
        have HFit:Hid (nl+(a.map f16).length≤(rowC ns).toArray.size):=by
         show _≤_
         rw [List.length_map,List.size_toArray,rowC_len HN8.out,← HCA.out]
         have:=HM8.out
         omega
        have hNR:N≠R:=HNR.out
        have hsum:ns.length+a.length≤8:=by rw [HNL.out,← HCA.out];have:=HM8.out;omega
        have HD:Hid (∀w5,Copied w4 w5 R (splice (rowC ns) nl (a.map f16)) 153→(w5.cell? ⟨R,8,none⟩=some (.int .i64 (nl:Int))∧w5.cell? ⟨N,8,none⟩=some (.int .i64 (c:Int))∧w5.frozen? ⟨R,8,none⟩=false)):=fun w5 hcp=>by
         have hb:=hcp.bk
         rw [← HNL.out] at hb
         have h8:=hb.cell 8 (by rw [splice_len hsum];decide)
         rw [splice_last hsum,HNL.out] at h8
         exact ⟨h8.1,((hcp.other HNew.out hNR).cell 8 (by show 8 < 9;decide)).1,h8.2⟩
        have HE:Hid (∀w5,Copied w4 w5 R (splice (rowC ns) nl (a.map f16)) 153→(Bk9 (w5.setCell ⟨R,8,none⟩ (.int .i64 ((nl:Int)+(c:Int)))) R (rowC (ns++a))∧Bk9 (w5.setCell ⟨R,8,none⟩ (.int .i64 ((nl:Int)+(c:Int)))) G zero9∧Below w.heap.size w (w5.setCell ⟨R,8,none⟩ (.int .i64 ((nl:Int)+(c:Int)))))):=fun w5 hcp=>by
         have hb:=hcp.bk
         rw [← HNL.out] at hb
         have hs:=hb.set 8 (.int .i64 ((ns.length+a.length:Nat):Int))
         rw [rowC_put hsum,HNL.out,← HCA.out] at hs
         refine ⟨hs,(hcp.other HG4.out HGR.out).other _ _ HGR.out,belowSet (hcp.2.2.2 _ _ HB4.out HRl.out) HRl.out ?_ 8 _⟩
         rw [hcp.2.2.1]
         exact HB4.out.size
        clear hnl hc1 hcl hal hNR hsum
        go_wp2_with fail
        go_region_held3 (fun w'=>w'.cell? ⟨R,8,none⟩=some (.int .i64 (nl:Int))∧w'.cell? ⟨N,8,none⟩=some (.int .i64 (c:Int))) (first | exact ⟨d1,d2⟩ | go_keep) ((refine step_copy_row rfl (.tmp 46) (.tmp 50) 85 85 rfl 23 (by kernel_rfl) (by kernel_rfl) R nl ⟨N,0,none⟩ (8-nl) (8-nl) c 8 (by simp [Act.eval,Act.put,nne]<;>(intro h;omega)) rfl (rowC ns).toArray 153 HGr.out (a.map f16) HN1.out HSrc.out HFit.out one_f16 ?_;intro w5 hw5;have hcp:=copied_of HGr4.out hw5;obtain ⟨d1,d2,d3⟩:=HD.out w5 hcp))
        all_goals
         have HE5:=hid (HE.out _ hcp)
         clear hcp hw5 HE HD
         go_wp2_with fail
         go_roundw
         case rel=>exact ⟨false,[],ns++a,rfl,rfl,HAt2.out,HRst.out,HE5.out.1,HE5.out.2.1,HE5.out.2.2,HMw.out.below HE5.out.2.2⟩
         case measure=>show 0 < r.length+1;omega
    ·have HTL:Hid (ra.length≤100000):=by have:=HRl2.out;show _≤_;omega
     have HRst:Hid (rb.length≤100000):=by have:=HRl2.out;show _≤_;omega
     have HLn:=hid hlen
     clear hlen
     go_wp2_with fail
     refine (pcut_at hcut _ HRl2.out HMx.out).mono ?_
     rintro e wc ⟨rfl,hbc,hmc⟩
     have HMc:=hid hmc
     have HBc:=hid hbc
     clear hbc hmc
     go_wp2_with fail
     refine (pread_calls false (strOf ra) _ HTL.out).mono ?_
     rintro e w3 ⟨v,⟨x0,x1,x2,x3,x4,x5,x6,x7,c,rfl,hc8,hns⟩,rfl,hb3⟩
     rw [str_data] at hns
     rw [str_data]
     have HNS:=hid hns
     have HC8:=hid hc8
     have hall:Below wr.heap.size wr w3:=below_trans HBc.out hb3
     have HAll:=hid (hall.alloc hall.size (.cells #[.int .u16 (x0:Int),.int .u16 (x1:Int),.int .u16 (x2:Int),.int .u16 (x3:Int),.int .u16 (x4:Int),.int .u16 (x5:Int),.int .u16 (x6:Int),.int .u16 (x7:Int),.int .i64 (c:Int)] 153))
     have HSz:=hid hall.size
     have HNew:Hid (Bk9 (w3.alloc (.cells #[.int .u16 (x0:Int),.int .u16 (x1:Int),.int .u16 (x2:Int),.int .u16 (x3:Int),.int .u16 (x4:Int),.int .u16 (x5:Int),.int .u16 (x6:Int),.int .u16 (x7:Int),.int .i64 (c:Int)] 153)) w3.heap.size [.int .u16 (x0:Int),.int .u16 (x1:Int),.int .u16 (x2:Int),.int .u16 (x3:Int),.int .u16 (x4:Int),.int .u16 (x5:Int),.int .u16 (x6:Int),.int .u16 (x7:Int),.int .i64 (c:Int)]):=heap_alloc_new w3 _
     clear hns hc8 hall hb3 HBc HMc
     have c0':(0:Int)≤(c:Int):=by omega
     have c8':(c:Int)≤8:=by have:=HC8.out;omega
     obtain ⟨nl,hnl⟩:∃nl,ns.length=nl:=⟨_,rfl⟩
     have HNL:=hid hnl
     have n0':(0:Int)≤(nl:Int):=by omega
     have n8':(nl:Int)≤8:=by have:=HN8.out;omega
     cases hp:pcR false ra with
     | none =>
       have HX:=hid (HAt.out.cut_none hsp hp)
       simp only [Option.isSome_none]
       clear hp hnl
       go_upto_region 7 with fail
       generalize w3.alloc (.cells #[.int .u16 (x0:Int),.int .u16 (x1:Int),.int .u16 (x2:Int),.int .u16 (x3:Int),.int .u16 (x4:Int),.int .u16 (x5:Int),.int .u16 (x6:Int),.int .u16 (x7:Int),.int .i64 (c:Int)] 153)=w4 at *
       generalize w3.heap.size=N at *
       have HB4:=hid (below_trans HB.out HAll.out)
       have HG4:=hid (HBG.out.below HAll.out)
       obtain ⟨⟨c0,c1,c2,c3,c4,c5,c6,c7,c8⟩,⟨f0,f1,f2,f3,f4,f5,f6,f7,f8⟩⟩:=cells9 (y0:=.int .u16 0) (y1:=.int .u16 0) (y2:=.int .u16 0) (y3:=.int .u16 0) (y4:=.int .u16 0) (y5:=.int .u16 0) (y6:=.int .u16 0) (y7:=.int .u16 0) (y8:=.int .i64 0) HG4.out
       have HFill:=hid (fill9 (y0:=.int .u16 0) (y1:=.int .u16 0) (y2:=.int .u16 0) (y3:=.int .u16 0) (y4:=.int .u16 0) (y5:=.int .u16 0) (y6:=.int .u16 0) (y7:=.int .u16 0) (y8:=.int .i64 0) HG4.out HB4.out HGl.out HB4.out.size (.int .u16 0) (.int .u16 0) (.int .u16 0) (.int .u16 0) (.int .u16 0) (.int .u16 0) (.int .u16 0) (.int .u16 0) (.int .i64 0))
       go_wp2_with fail
       generalize (((((((((w4.setCell ⟨G,0,none⟩ (.int .u16 0)).setCell ⟨G,1,none⟩ (.int .u16 0)).setCell ⟨G,2,none⟩ (.int .u16 0)).setCell ⟨G,3,none⟩ (.int .u16 0)).setCell ⟨G,4,none⟩ (.int .u16 0)).setCell ⟨G,5,none⟩ (.int .u16 0)).setCell ⟨G,6,none⟩ (.int .u16 0)).setCell ⟨G,7,none⟩ (.int .u16 0)).setCell ⟨G,8,none⟩ (.int .i64 0))=W9 at *
       obtain ⟨⟨g0,g1,g2,g3,g4,g5,g6,g7,g8⟩,-⟩:=cells9 HFill.out.1
       have HBL:=hid HFill.out.2
       clear HFill c0 c1 c2 c3 c4 c5 c6 c7 c8 f0 f1 f2 f3 f4 f5 f6 f7 f8
       refine bodyPost_ret (by simp [results,Tryz.results147,go_sem,g0,g1,g2,g3,g4,g5,g6,g7,g8];try rfl) rfl ?_
       exact RPost.no 0 0 0 0 0 0 0 0 0 (by decide) HX.out HBL.out
     | some a =>
       obtain ⟨hca,hx⟩:=HNS.out a hp
       simp only [Option.isSome_some]
       by_cases hm8:8 < nl+c
       ·have HX:=hid (HAt.out.cut_many hsp hp (by omega))
        have g1:(8:Int) < (nl:Int)+(c:Int):=by omega
        clear hp hca hx hm8
        go_upto_region 7 with fail
        generalize w3.alloc (.cells #[.int .u16 (x0:Int),.int .u16 (x1:Int),.int .u16 (x2:Int),.int .u16 (x3:Int),.int .u16 (x4:Int),.int .u16 (x5:Int),.int .u16 (x6:Int),.int .u16 (x7:Int),.int .i64 (c:Int)] 153)=w4 at *
        generalize w3.heap.size=N at *
        have HB4:=hid (below_trans HB.out HAll.out)
        have HG4:=hid (HBG.out.below HAll.out)
        have HR4:=HBR.out.below HAll.out
        have r8:=(HR4.cell 8 (by rw [rowC_len HN8.out];decide)).1
        rw [rowC_last HN8.out,hnl] at r8
        have m8:=(HNew.out.cell 8 (by show 8 < 9;decide)).1
        change w4.cell? ⟨N,8,none⟩=some (.int .i64 (c:Int)) at m8
        change w4.cell? ⟨R,8,none⟩=some (.int .i64 (nl:Int)) at r8
        obtain ⟨⟨c0,c1,c2,c3,c4,c5,c6,c7,c8⟩,⟨f0,f1,f2,f3,f4,f5,f6,f7,f8⟩⟩:=cells9 (y0:=.int .u16 0) (y1:=.int .u16 0) (y2:=.int .u16 0) (y3:=.int .u16 0) (y4:=.int .u16 0) (y5:=.int .u16 0) (y6:=.int .u16 0) (y7:=.int .u16 0) (y8:=.int .i64 0) HG4.out
        have HFill:=hid (fill9 (y0:=.int .u16 0) (y1:=.int .u16 0) (y2:=.int .u16 0) (y3:=.int .u16 0) (y4:=.int .u16 0) (y5:=.int .u16 0) (y6:=.int .u16 0) (y7:=.int .u16 0) (y8:=.int .i64 0) HG4.out HB4.out HGl.out HB4.out.size (.int .u16 0) (.int .u16 0) (.int .u16 0) (.int .u16 0) (.int .u16 0) (.int .u16 0) (.int .u16 0) (.int .u16 0) (.int .i64 0))
        clear HR4 hnl
        go_wp2_with fail
        generalize (((((((((w4.setCell ⟨G,0,none⟩ (.int .u16 0)).setCell ⟨G,1,none⟩ (.int .u16 0)).setCell ⟨G,2,none⟩ (.int .u16 0)).setCell ⟨G,3,none⟩ (.int .u16 0)).setCell ⟨G,4,none⟩ (.int .u16 0)).setCell ⟨G,5,none⟩ (.int .u16 0)).setCell ⟨G,6,none⟩ (.int .u16 0)).setCell ⟨G,7,none⟩ (.int .u16 0)).setCell ⟨G,8,none⟩ (.int .i64 0))=W9 at *
        obtain ⟨⟨g0,g1,g2,g3,g4,g5,g6,g7,g8⟩,-⟩:=cells9 HFill.out.1
        have HBL:=hid HFill.out.2
        clear HFill c0 c1 c2 c3 c4 c5 c6 c7 c8 f0 f1 f2 f3 f4 f5 f6 f7 f8
        refine bodyPost_ret (by simp [results,Tryz.results147,go_sem,g0,g1,g2,g3,g4,g5,g6,g7,g8];try rfl) rfl ?_
        exact RPost.no 0 0 0 0 0 0 0 0 0 (by decide) HX.out HBL.out
       ·have HAt2:=hid (HAt.out.cut hsp hp (by omega) )
        have g1:¬(8:Int) < (nl:Int)+(c:Int):=by omega
        have HCA:=hid hca
        have HC1:Hid (1≤c):=by show 1≤c;rw [hca];exact pcR_pos hp
        have HXX:=hid hx
        have HM8:=hid hm8
        clear hp hca hx hm8
        go_upto_region 7 with fail
        have HNR:Hid (w3.heap.size≠R):=by have h1:=HBR.out.lt;have h2:=HSz.out;show¬_;omega
        generalize w3.alloc (.cells #[.int .u16 (x0:Int),.int .u16 (x1:Int),.int .u16 (x2:Int),.int .u16 (x3:Int),.int .u16 (x4:Int),.int .u16 (x5:Int),.int .u16 (x6:Int),.int .u16 (x7:Int),.int .i64 (c:Int)] 153)=w4 at *
        generalize w3.heap.size=N at *
        have HB4:=hid (below_trans HB.out HAll.out)
        have HG4:=hid (HBG.out.below HAll.out)
        have HR4:=hid (HBR.out.below HAll.out)
        have r8:=(HR4.out.cell 8 (by rw [rowC_len HN8.out];decide)).1
        rw [rowC_last HN8.out,hnl] at r8
        have m8:=(HNew.out.cell 8 (by show 8 < 9;decide)).1
        change w4.cell? ⟨N,8,none⟩=some (.int .i64 (c:Int)) at m8
        change w4.cell? ⟨R,8,none⟩=some (.int .i64 (nl:Int)) at r8
        have hc1:=HC1.out
        have nn:(nl:Int) < 8:=by have:=HM8.out;omega
        have nne:(nl=8)=False:=by simp;omega
        have hcl:c≤8:=HC8.out
        have HGr:Hid (w4.drew.heap[R]? = some (.cells (rowC ns).toArray 153)):=by
         have h:=HR4.out
         rw [show (rowC ns)=(rowC ns).map idV from (List.map_id _).symm]
         exact h
        have HGr4:Hid (w4.heap[R]? = some (.cells (rowC ns).toArray 153)):=HGr.out
        have hal:a.length≤8:=by rw [← HCA.out];exact hcl
        have HSrc:Hid (∀j u,(a.map f16)[j]? = some u→w4.drew.cell? ((⟨N,0,none⟩:Addr).add j)=some u):=row_src HNew.out HXX.out hal
        have HN1:Hid ((a.map f16).length=Nat.min c (8-nl)):=by
         show _=_
         rw [List.length_map,← HCA.out]
         have:=HM8.out
         exact (Nat.min_eq_left (by omega)).symm
        have HFit:Hid (nl+(a.map f16).length≤(rowC ns).toArray.size):=by
         show _≤_
         rw [List.length_map,List.size_toArray,rowC_len HN8.out,← HCA.out]
         have:=HM8.out
         omega
        have hNR:N≠R:=HNR.out
        have hsum:ns.length+a.length≤8:=by rw [HNL.out,← HCA.out];have:=HM8.out;omega
        have HD:Hid (∀w5,Copied w4 w5 R (splice (rowC ns) nl (a.map f16)) 153→(w5.cell? ⟨R,8,none⟩=some (.int .i64 (nl:Int))∧w5.cell? ⟨N,8,none⟩=some (.int .i64 (c:Int))∧w5.frozen? ⟨R,8,none⟩=false)):=fun w5 hcp=>by
         have hb:=hcp.bk
         rw [← HNL.out] at hb
         have h8:=hb.cell 8 (by rw [splice_len hsum];decide)
         rw [splice_last hsum,HNL.out] at h8
         exact ⟨h8.1,((hcp.other HNew.out hNR).cell 8 (by show 8 < 9;decide)).1,h8.2⟩
        have HE:Hid (∀w5,Copied w4 w5 R (splice (rowC ns) nl (a.map f16)) 153→(Bk9 (w5.setCell ⟨R,8,none⟩ (.int .i64 ((nl:Int)+(c:Int)))) R (rowC (ns++a))∧Bk9 (w5.setCell ⟨R,8,none⟩ (.int .i64 ((nl:Int)+(c:Int)))) G zero9∧Below w.heap.size w (w5.setCell ⟨R,8,none⟩ (.int .i64 ((nl:Int)+(c:Int)))))):=fun w5 hcp=>by
         have hb:=hcp.bk
         rw [← HNL.out] at hb
         have hs:=hb.set 8 (.int .i64 ((ns.length+a.length:Nat):Int))
         rw [rowC_put hsum,HNL.out,← HCA.out] at hs
         refine ⟨hs,(hcp.other HG4.out HGR.out).other _ _ HGR.out,belowSet (hcp.2.2.2 _ _ HB4.out HRl.out) HRl.out ?_ 8 _⟩
         rw [hcp.2.2.1]
         exact HB4.out.size
        clear hnl hc1 hcl hal hNR hsum
        go_wp2_with fail
        go_region_held3 (fun w'=>w'.cell? ⟨R,8,none⟩=some (.int .i64 (nl:Int))∧w'.cell? ⟨N,8,none⟩=some (.int .i64 (c:Int))) (first | exact ⟨d1,d2⟩ | go_keep) ((refine step_copy_row rfl (.tmp 46) (.tmp 50) 85 85 rfl 23 (by kernel_rfl) (by kernel_rfl) R nl ⟨N,0,none⟩ (8-nl) (8-nl) c 8 (by simp [Act.eval,Act.put,nne]<;>(intro h;omega)) rfl (rowC ns).toArray 153 HGr.out (a.map f16) HN1.out HSrc.out HFit.out one_f16 ?_;intro w5 hw5;have hcp:=copied_of HGr4.out hw5;obtain ⟨d1,d2,d3⟩:=HD.out w5 hcp))
        all_goals
         have HE5:=hid (HE.out _ hcp)
         clear hcp hw5 HE HD
         go_wp2_with fail
         go_roundw
         case rel=>exact ⟨true,rb,ns++a,rfl,rfl,HAt2.out,HRst.out,HE5.out.1,HE5.out.2.1,HE5.out.2.2,HMw.out.below HE5.out.2.2⟩
         case measure=>show rb.length+1 < r.length+1;have:=HLn.out;omega
theorem prow_true (s:ByteArray) (w:World) (hs:s.size≤100000) (hm:MaxL w):Calls Tryz.prog 147 #[.string s,.bool true] w fun e w'=>RPost (rowR true s.data.toList) w e w':=by
 have HS:=hid hs
 obtain ⟨mo,hmo⟩:∃mo:Bool,s.toList.isEmpty=!mo:=⟨!s.toList.isEmpty,by simp⟩
 have HSt:Hid (RowAt true s.data.toList mo s.data.toList []):=by
  show RowAt true s.data.toList mo s.data.toList []
  by_cases h0:s.size=0
  ·rw [empty_yes h0] at hmo
   have hm2:mo=false:=by cases mo;rfl;cases hmo
   rw [hm2,data_nil h0]
   exact RowAt.start0 _ _
  ·rw [(empty_no h0).2] at hmo
   have hm2:mo=true:=by cases mo;cases hmo;rfl
   rw [hm2]
   exact RowAt.start1 (data_ne h0)
 have HLN:=hid (bytes_num s)
 have HG0:=hid ((zero9_world w).below ((Below.refl _ _).alloc (Nat.le_refl _) (.cells #[.int .u16 0,.int .u16 0,.int .u16 0,.int .u16 0,.int .u16 0,.int .u16 0,.int .u16 0,.int .u16 0,.int .i64 0] 153)))
 have HR0:Hid (Bk9 ((w.alloc (.cells #[.int .u16 0,.int .u16 0,.int .u16 0,.int .u16 0,.int .u16 0,.int .u16 0,.int .u16 0,.int .u16 0,.int .i64 0] 153)).alloc (.cells #[.int .u16 0,.int .u16 0,.int .u16 0,.int .u16 0,.int .u16 0,.int .u16 0,.int .u16 0,.int .u16 0,.int .i64 0] 153)) (w.heap.size+1) (rowC [])):=by
  have h:=rowC_start (w.alloc (.cells #[.int .u16 0,.int .u16 0,.int .u16 0,.int .u16 0,.int .u16 0,.int .u16 0,.int .u16 0,.int .u16 0,.int .i64 0] 153))
  rw [show (w.alloc (.cells #[.int .u16 0,.int .u16 0,.int .u16 0,.int .u16 0,.int .u16 0,.int .u16 0,.int .u16 0,.int .u16 0,.int .i64 0] 153)).heap.size=w.heap.size+1 by simp] at h
  exact h
 have HB0:=hid (((Below.refl w.heap.size w).alloc (Nat.le_refl _) (.cells #[.int .u16 0,.int .u16 0,.int .u16 0,.int .u16 0,.int .u16 0,.int .u16 0,.int .u16 0,.int .u16 0,.int .i64 0] 153)).alloc (by simp) (.cells #[.int .u16 0,.int .u16 0,.int .u16 0,.int .u16 0,.int .u16 0,.int .u16 0,.int .u16 0,.int .u16 0,.int .i64 0] 153))
 have HM0:=hid (hm.below HB0.out)
 have HMw:=hid hm
 obtain ⟨L,hL⟩:∃L,s.data.toList=L:=⟨_,rfl⟩
 have HL:=hid hL
 rw [hL] at HSt HLN ⊢
 clear hs hm hL
 go_enter Tryz.func147,Tryz.ntmps147
 go_wp2_with fail
 obtain ⟨G,hG⟩:∃G,w.heap.size=G:=⟨_,rfl⟩
 have HGl:Hid (w.heap.size≤G):=Nat.le_of_eq hG
 obtain ⟨R,hR⟩:∃R,w.heap.size+1=R:=⟨_,rfl⟩
 have HRl:Hid (w.heap.size≤R):=by show _≤_;omega
 have HGR:Hid (G≠R):=by show¬_;omega
 rw [hR] at HR0 ⊢
 rw [hG] at HG0
 have hGp:(Value.pointer (some ⟨w.heap.size,0,none⟩))=Value.pointer (some ⟨G,0,none⟩):=by rw [hG]
 rw [hGp]
 clear hR hG hGp
 go_loopw [7,8] (fun rest more wr=>∃(mo:Bool) (r:List UInt8) (ns:List Nat),rest=.string (strOf r)∧more=.bool mo∧RowAt true L mo r ns∧r.length≤100000∧Bk9 wr R (rowC ns)∧Bk9 wr G zero9∧Below w.heap.size w wr∧MaxL wr) (fun rest more _=>msr rest more)
 case atStart=>exact ⟨mo,L,[],by rw [← HL.out];rfl,rfl,HSt.out,by rw [HLN.out];exact HS.out,HR0.out,HG0.out,HB0.out,HM0.out⟩
 case round =>
  obtain ⟨mr,r,ns,rfl,rfl,hat,hrl,hbR,hbG,hb,hmx⟩:=hrel
  have HAt:=hid hat
  have HRl2:=hid hrl
  have HBR:=hid hbR
  have HBG:=hid hbG
  have HB:=hid hb
  have HMx:=hid hmx
  have HN8:=hid hat.1
  clear hat hrl hbR hbG hb hmx HG0 HR0 HB0 HM0 HSt hmo
  cases mr with
  | false =>
    have HX:=hid HAt.out.done
    obtain ⟨x0,x1,x2,x3,x4,x5,x6,x7,h8⟩:=rowC_eight HN8.out
    have HBR2:=HBR.out
    unfold rowC at HBR2
    rw [h8] at HBR2
    obtain ⟨⟨d0,d1,d2,d3,d4,d5,d6,d7,d8⟩,-⟩:=cells9 HBR2
    have HFin:=hid (fun w' (hb:Below w.heap.size w w')=>RPost.yes (w:=w) (w':=w') x0 x1 x2 x3 x4 x5 x6 x7 ns.length HX.out rfl HN8.out h8.symm hb)
    obtain ⟨⟨c0,c1,c2,c3,c4,c5,c6,c7,c8⟩,⟨f0,f1,f2,f3,f4,f5,f6,f7,f8⟩⟩:=cells9 (y0:=.int .u16 0) (y1:=.int .u16 0) (y2:=.int .u16 0) (y3:=.int .u16 0) (y4:=.int .u16 0) (y5:=.int .u16 0) (y6:=.int .u16 0) (y7:=.int .u16 0) (y8:=.int .i64 0) HBG.out
    have HFill:=hid (fill9 (y0:=.int .u16 0) (y1:=.int .u16 0) (y2:=.int .u16 0) (y3:=.int .u16 0) (y4:=.int .u16 0) (y5:=.int .u16 0) (y6:=.int .u16 0) (y7:=.int .u16 0) (y8:=.int .i64 0) HBG.out HB.out HGl.out HB.out.size (.int .u16 (x0:Int)) (.int .u16 (x1:Int)) (.int .u16 (x2:Int)) (.int .u16 (x3:Int)) (.int .u16 (x4:Int)) (.int .u16 (x5:Int)) (.int .u16 (x6:Int)) (.int .u16 (x7:Int)) (.int .i64 (ns.length:Int)))
    generalize ns.length=nc at *
    clear h8 HBR2 HX
    unfold f16 at d0 d1 d2 d3 d4 d5 d6 d7
    go_wp2_with fail
    generalize (((((((((wr.setCell ⟨G,0,none⟩ (.int .u16 (x0:Int))).setCell ⟨G,1,none⟩ (.int .u16 (x1:Int))).setCell ⟨G,2,none⟩ (.int .u16 (x2:Int))).setCell ⟨G,3,none⟩ (.int .u16 (x3:Int))).setCell ⟨G,4,none⟩ (.int .u16 (x4:Int))).setCell ⟨G,5,none⟩ (.int .u16 (x5:Int))).setCell ⟨G,6,none⟩ (.int .u16 (x6:Int))).setCell ⟨G,7,none⟩ (.int .u16 (x7:Int))).setCell ⟨G,8,none⟩ (.int .i64 (nc:Int)))=W9 at *
    obtain ⟨⟨g0,g1,g2,g3,g4,g5,g6,g7,g8⟩,-⟩:=cells9 HFill.out.1
    have HBL:=hid HFill.out.2
    clear HFill c0 c1 c2 c3 c4 c5 c6 c7 c8 f0 f1 f2 f3 f4 f5 f6 f7 f8
    refine bodyPost_ret (by simp [results,Tryz.results147,go_sem,g0,g1,g2,g3,g4,g5,g6,g7,g8];try rfl) rfl ?_
    exact HFin.out _ HBL.out
  | true =>
    rcases cut_colon r with ⟨hcut,hsp⟩ | ⟨ra,rb,hcut,hsp,hlen⟩
    ·have HTL:=hid HRl2.out
     have HRst:Hid (([]:List UInt8).length≤100000):=Nat.zero_le _
     go_wp2_with fail
     refine (pcut_at hcut _ HRl2.out HMx.out).mono ?_
     rintro e wc ⟨rfl,hbc,hmc⟩
     have HMc:=hid hmc
     have HBc:=hid hbc
     clear hbc hmc
     go_wp2_with fail
     refine (pread_calls true (strOf r) _ HTL.out).mono ?_
     rintro e w3 ⟨v,⟨x0,x1,x2,x3,x4,x5,x6,x7,c,rfl,hc8,hns⟩,rfl,hb3⟩
     rw [str_data] at hns
     rw [str_data]
     have HNS:=hid hns
     have HC8:=hid hc8
     have hall:Below wr.heap.size wr w3:=below_trans HBc.out hb3
     have HAll:=hid (hall.alloc hall.size (.cells #[.int .u16 (x0:Int),.int .u16 (x1:Int),.int .u16 (x2:Int),.int .u16 (x3:Int),.int .u16 (x4:Int),.int .u16 (x5:Int),.int .u16 (x6:Int),.int .u16 (x7:Int),.int .i64 (c:Int)] 153))
     have HSz:=hid hall.size
     have HNew:Hid (Bk9 (w3.alloc (.cells #[.int .u16 (x0:Int),.int .u16 (x1:Int),.int .u16 (x2:Int),.int .u16 (x3:Int),.int .u16 (x4:Int),.int .u16 (x5:Int),.int .u16 (x6:Int),.int .u16 (x7:Int),.int .i64 (c:Int)] 153)) w3.heap.size [.int .u16 (x0:Int),.int .u16 (x1:Int),.int .u16 (x2:Int),.int .u16 (x3:Int),.int .u16 (x4:Int),.int .u16 (x5:Int),.int .u16 (x6:Int),.int .u16 (x7:Int),.int .i64 (c:Int)]):=heap_alloc_new w3 _
     clear hns hc8 hall hb3 HBc HMc
     have c0':(0:Int)≤(c:Int):=by omega
     have c8':(c:Int)≤8:=by have:=HC8.out;omega
     obtain ⟨nl,hnl⟩:∃nl,ns.length=nl:=⟨_,rfl⟩
     have HNL:=hid hnl
     have n0':(0:Int)≤(nl:Int):=by omega
     have n8':(nl:Int)≤8:=by have:=HN8.out;omega
     cases hp:pcR true r with
     | none =>
       have HX:=hid (HAt.out.one_none hsp hp)
       simp only [Option.isSome_none]
       clear hp hnl
       go_upto_region 7 with fail
       generalize w3.alloc (.cells #[.int .u16 (x0:Int),.int .u16 (x1:Int),.int .u16 (x2:Int),.int .u16 (x3:Int),.int .u16 (x4:Int),.int .u16 (x5:Int),.int .u16 (x6:Int),.int .u16 (x7:Int),.int .i64 (c:Int)] 153)=w4 at *
       generalize w3.heap.size=N at *
       have HB4:=hid (below_trans HB.out HAll.out)
       have HG4:=hid (HBG.out.below HAll.out)
       obtain ⟨⟨c0,c1,c2,c3,c4,c5,c6,c7,c8⟩,⟨f0,f1,f2,f3,f4,f5,f6,f7,f8⟩⟩:=cells9 (y0:=.int .u16 0) (y1:=.int .u16 0) (y2:=.int .u16 0) (y3:=.int .u16 0) (y4:=.int .u16 0) (y5:=.int .u16 0) (y6:=.int .u16 0) (y7:=.int .u16 0) (y8:=.int .i64 0) HG4.out
       have HFill:=hid (fill9 (y0:=.int .u16 0) (y1:=.int .u16 0) (y2:=.int .u16 0) (y3:=.int .u16 0) (y4:=.int .u16 0) (y5:=.int .u16 0) (y6:=.int .u16 0) (y7:=.int .u16 0) (y8:=.int .i64 0) HG4.out HB4.out HGl.out HB4.out.size (.int .u16 0) (.int .u16 0) (.int .u16 0) (.int .u16 0) (.int .u16 0) (.int .u16 0) (.int .u16 0) (.int .u16 0) (.int .i64 0))
       go_wp2_with fail
       generalize (((((((((w4.setCell ⟨G,0,none⟩ (.int .u16 0)).setCell ⟨G,1,none⟩ (.int .u16 0)).setCell ⟨G,2,none⟩ (.int .u16 0)).setCell ⟨G,3,none⟩ (.int .u16 0)).setCell ⟨G,4,none⟩ (.int .u16 0)).setCell ⟨G,5,none⟩ (.int .u16 0)).setCell ⟨G,6,none⟩ (.int .u16 0)).setCell ⟨G,7,none⟩ (.int .u16 0)).setCell ⟨G,8,none⟩ (.int .i64 0))=W9 at *
       obtain ⟨⟨g0,g1,g2,g3,g4,g5,g6,g7,g8⟩,-⟩:=cells9 HFill.out.1
       have HBL:=hid HFill.out.2
       clear HFill c0 c1 c2 c3 c4 c5 c6 c7 c8 f0 f1 f2 f3 f4 f5 f6 f7 f8
       refine bodyPost_ret (by simp [results,Tryz.results147,go_sem,g0,g1,g2,g3,g4,g5,g6,g7,g8];try rfl) rfl ?_
       exact RPost.no 0 0 0 0 0 0 0 0 0 (by decide) HX.out HBL.out
     | some a =>
       obtain ⟨hca,hx⟩:=HNS.out a hp
       simp only [Option.isSome_some]
       by_cases hm8:8 < nl+c
       ·have HX:=hid (HAt.out.one_many hsp hp (by omega))
        have g1:(8:Int) < (nl:Int)+(c:Int):=by omega
        clear hp hca hx hm8
        go_upto_region 7 with fail
        generalize w3.alloc (.cells #[.int .u16 (x0:Int),.int .u16 (x1:Int),.int .u16 (x2:Int),.int .u16 (x3:Int),.int .u16 (x4:Int),.int .u16 (x5:Int),.int .u16 (x6:Int),.int .u16 (x7:Int),.int .i64 (c:Int)] 153)=w4 at *
        generalize w3.heap.size=N at *
        have HB4:=hid (below_trans HB.out HAll.out)
        have HG4:=hid (HBG.out.below HAll.out)
        have HR4:=HBR.out.below HAll.out
        have r8:=(HR4.cell 8 (by rw [rowC_len HN8.out];decide)).1
        rw [rowC_last HN8.out,hnl] at r8
        have m8:=(HNew.out.cell 8 (by show 8 < 9;decide)).1
        change w4.cell? ⟨N,8,none⟩=some (.int .i64 (c:Int)) at m8
        change w4.cell? ⟨R,8,none⟩=some (.int .i64 (nl:Int)) at r8
        obtain ⟨⟨c0,c1,c2,c3,c4,c5,c6,c7,c8⟩,⟨f0,f1,f2,f3,f4,f5,f6,f7,f8⟩⟩:=cells9 (y0:=.int .u16 0) (y1:=.int .u16 0) (y2:=.int .u16 0) (y3:=.int .u16 0) (y4:=.int .u16 0) (y5:=.int .u16 0) (y6:=.int .u16 0) (y7:=.int .u16 0) (y8:=.int .i64 0) HG4.out
        have HFill:=hid (fill9 (y0:=.int .u16 0) (y1:=.int .u16 0) (y2:=.int .u16 0) (y3:=.int .u16 0) (y4:=.int .u16 0) (y5:=.int .u16 0) (y6:=.int .u16 0) (y7:=.int .u16 0) (y8:=.int .i64 0) HG4.out HB4.out HGl.out HB4.out.size (.int .u16 0) (.int .u16 0) (.int .u16 0) (.int .u16 0) (.int .u16 0) (.int .u16 0) (.int .u16 0) (.int .u16 0) (.int .i64 0))
        clear HR4 hnl
        go_wp2_with fail
        generalize (((((((((w4.setCell ⟨G,0,none⟩ (.int .u16 0)).setCell ⟨G,1,none⟩ (.int .u16 0)).setCell ⟨G,2,none⟩ (.int .u16 0)).setCell ⟨G,3,none⟩ (.int .u16 0)).setCell ⟨G,4,none⟩ (.int .u16 0)).setCell ⟨G,5,none⟩ (.int .u16 0)).setCell ⟨G,6,none⟩ (.int .u16 0)).setCell ⟨G,7,none⟩ (.int .u16 0)).setCell ⟨G,8,none⟩ (.int .i64 0))=W9 at *
        obtain ⟨⟨g0,g1,g2,g3,g4,g5,g6,g7,g8⟩,-⟩:=cells9 HFill.out.1
        have HBL:=hid HFill.out.2
        clear HFill c0 c1 c2 c3 c4 c5 c6 c7 c8 f0 f1 f2 f3 f4 f5 f6 f7 f8
        refine bodyPost_ret (by simp [results,Tryz.results147,go_sem,g0,g1,g2,g3,g4,g5,g6,g7,g8];try rfl) rfl ?_
        exact RPost.no 0 0 0 0 0 0 0 0 0 (by decide) HX.out HBL.out
       ·have HAt2:=hid (HAt.out.one hsp hp (by omega) [])
        have g1:¬(8:Int) < (nl:Int)+(c:Int):=by omega
        have HCA:=hid hca
        have HC1:Hid (1≤c):=by show 1≤c;rw [hca];exact pcR_pos hp
        have HXX:=hid hx
        have HM8:=hid hm8
        clear hp hca hx hm8
        go_upto_region 7 with fail
        have HNR:Hid (w3.heap.size≠R):=by have h1:=HBR.out.lt;have h2:=HSz.out;show¬_;omega
        generalize w3.alloc (.cells #[.int .u16 (x0:Int),.int .u16 (x1:Int),.int .u16 (x2:Int),.int .u16 (x3:Int),.int .u16 (x4:Int),.int .u16 (x5:Int),.int .u16 (x6:Int),.int .u16 (x7:Int),.int .i64 (c:Int)] 153)=w4 at *
        generalize w3.heap.size=N at *
        have HB4:=hid (below_trans HB.out HAll.out)
        have HG4:=hid (HBG.out.below HAll.out)
        have HR4:=hid (HBR.out.below HAll.out)
        have r8:=(HR4.out.cell 8 (by rw [rowC_len HN8.out];decide)).1
        rw [rowC_last HN8.out,hnl] at r8
        have m8:=(HNew.out.cell 8 (by show 8 < 9;decide)).1
        change w4.cell? ⟨N,8,none⟩=some (.int .i64 (c:Int)) at m8
        change w4.cell? ⟨R,8,none⟩=some (.int .i64 (nl:Int)) at r8
        have hc1:=HC1.out
        have nn:(nl:Int) < 8:=by have:=HM8.out;omega
        have nne:(nl=8)=False:=by simp;omega
        have hcl:c≤8:=HC8.out
        have HGr:Hid (w4.drew.heap[R]? = some (.cells (rowC ns).toArray 153)):=by
         have h:=HR4.out
         rw [show (rowC ns)=(rowC ns).map idV from (List.map_id _).symm]
         exact h
        have HGr4:Hid (w4.heap[R]? = some (.cells (rowC ns).toArray 153)):=HGr.out
        have hal:a.length≤8:=by rw [← HCA.out];exact hcl
        have HSrc:Hid (∀j u,(a.map f16)[j]? = some u→w4.drew.cell? ((⟨N,0,none⟩:Addr).add j)=some u):=row_src HNew.out HXX.out hal
        have HN1:Hid ((a.map f16).length=Nat.min c (8-nl)):=by
         show _=_
         rw [List.length_map,← HCA.out]
         have:=HM8.out
         exact (Nat.min_eq_left (by omega)).symm
        have HFit:Hid (nl+(a.map f16).length≤(rowC ns).toArray.size):=by
         show _≤_
         rw [List.length_map,List.size_toArray,rowC_len HN8.out,← HCA.out]
         have:=HM8.out
         omega
        have hNR:N≠R:=HNR.out
        have hsum:ns.length+a.length≤8:=by rw [HNL.out,← HCA.out];have:=HM8.out;omega
        have HD:Hid (∀w5,Copied w4 w5 R (splice (rowC ns) nl (a.map f16)) 153→(w5.cell? ⟨R,8,none⟩=some (.int .i64 (nl:Int))∧w5.cell? ⟨N,8,none⟩=some (.int .i64 (c:Int))∧w5.frozen? ⟨R,8,none⟩=false)):=fun w5 hcp=>by
         have hb:=hcp.bk
         rw [← HNL.out] at hb
         have h8:=hb.cell 8 (by rw [splice_len hsum];decide)
         rw [splice_last hsum,HNL.out] at h8
         exact ⟨h8.1,((hcp.other HNew.out hNR).cell 8 (by show 8 < 9;decide)).1,h8.2⟩
        have HE:Hid (∀w5,Copied w4 w5 R (splice (rowC ns) nl (a.map f16)) 153→(Bk9 (w5.setCell ⟨R,8,none⟩ (.int .i64 ((nl:Int)+(c:Int)))) R (rowC (ns++a))∧Bk9 (w5.setCell ⟨R,8,none⟩ (.int .i64 ((nl:Int)+(c:Int)))) G zero9∧Below w.heap.size w (w5.setCell ⟨R,8,none⟩ (.int .i64 ((nl:Int)+(c:Int)))))):=fun w5 hcp=>by
         have hb:=hcp.bk
         rw [← HNL.out] at hb
         have hs:=hb.set 8 (.int .i64 ((ns.length+a.length:Nat):Int))
         rw [rowC_put hsum,HNL.out,← HCA.out] at hs
         refine ⟨hs,(hcp.other HG4.out HGR.out).other _ _ HGR.out,belowSet (hcp.2.2.2 _ _ HB4.out HRl.out) HRl.out ?_ 8 _⟩
         rw [hcp.2.2.1]
         exact HB4.out.size
        clear hnl hc1 hcl hal hNR hsum
        go_wp2_with fail
        go_region_held3 (fun w'=>w'.cell? ⟨R,8,none⟩=some (.int .i64 (nl:Int))∧w'.cell? ⟨N,8,none⟩=some (.int .i64 (c:Int))) (first | exact ⟨d1,d2⟩ | go_keep) ((refine step_copy_row rfl (.tmp 46) (.tmp 50) 85 85 rfl 23 (by kernel_rfl) (by kernel_rfl) R nl ⟨N,0,none⟩ (8-nl) (8-nl) c 8 (by simp [Act.eval,Act.put,nne]<;>(intro h;omega)) rfl (rowC ns).toArray 153 HGr.out (a.map f16) HN1.out HSrc.out HFit.out one_f16 ?_;intro w5 hw5;have hcp:=copied_of HGr4.out hw5;obtain ⟨d1,d2,d3⟩:=HD.out w5 hcp))
        all_goals
         have HE5:=hid (HE.out _ hcp)
         clear hcp hw5 HE HD
         go_wp2_with fail
         go_roundw
         case rel=>exact ⟨false,[],ns++a,rfl,rfl,HAt2.out,HRst.out,HE5.out.1,HE5.out.2.1,HE5.out.2.2,HMw.out.below HE5.out.2.2⟩
         case measure=>show 0 < r.length+1;omega
    ·have HTL:Hid (ra.length≤100000):=by have:=HRl2.out;show _≤_;omega
     have HRst:Hid (rb.length≤100000):=by have:=HRl2.out;show _≤_;omega
     have HLn:=hid hlen
     clear hlen
     go_wp2_with fail
     refine (pcut_at hcut _ HRl2.out HMx.out).mono ?_
     rintro e wc ⟨rfl,hbc,hmc⟩
     have HMc:=hid hmc
     have HBc:=hid hbc
     clear hbc hmc
     go_wp2_with fail
     refine (pread_calls false (strOf ra) _ HTL.out).mono ?_
     rintro e w3 ⟨v,⟨x0,x1,x2,x3,x4,x5,x6,x7,c,rfl,hc8,hns⟩,rfl,hb3⟩
     rw [str_data] at hns
     rw [str_data]
     have HNS:=hid hns
     have HC8:=hid hc8
     have hall:Below wr.heap.size wr w3:=below_trans HBc.out hb3
     have HAll:=hid (hall.alloc hall.size (.cells #[.int .u16 (x0:Int),.int .u16 (x1:Int),.int .u16 (x2:Int),.int .u16 (x3:Int),.int .u16 (x4:Int),.int .u16 (x5:Int),.int .u16 (x6:Int),.int .u16 (x7:Int),.int .i64 (c:Int)] 153))
     have HSz:=hid hall.size
     have HNew:Hid (Bk9 (w3.alloc (.cells #[.int .u16 (x0:Int),.int .u16 (x1:Int),.int .u16 (x2:Int),.int .u16 (x3:Int),.int .u16 (x4:Int),.int .u16 (x5:Int),.int .u16 (x6:Int),.int .u16 (x7:Int),.int .i64 (c:Int)] 153)) w3.heap.size [.int .u16 (x0:Int),.int .u16 (x1:Int),.int .u16 (x2:Int),.int .u16 (x3:Int),.int .u16 (x4:Int),.int .u16 (x5:Int),.int .u16 (x6:Int),.int .u16 (x7:Int),.int .i64 (c:Int)]):=heap_alloc_new w3 _
     clear hns hc8 hall hb3 HBc HMc
     have c0':(0:Int)≤(c:Int):=by omega
     have c8':(c:Int)≤8:=by have:=HC8.out;omega
     obtain ⟨nl,hnl⟩:∃nl,ns.length=nl:=⟨_,rfl⟩
     have HNL:=hid hnl
     have n0':(0:Int)≤(nl:Int):=by omega
     have n8':(nl:Int)≤8:=by have:=HN8.out;omega
     cases hp:pcR false ra with
     | none =>
       have HX:=hid (HAt.out.cut_none hsp hp)
       simp only [Option.isSome_none]
       clear hp hnl
       go_upto_region 7 with fail
       generalize w3.alloc (.cells #[.int .u16 (x0:Int),.int .u16 (x1:Int),.int .u16 (x2:Int),.int .u16 (x3:Int),.int .u16 (x4:Int),.int .u16 (x5:Int),.int .u16 (x6:Int),.int .u16 (x7:Int),.int .i64 (c:Int)] 153)=w4 at *
       generalize w3.heap.size=N at *
       have HB4:=hid (below_trans HB.out HAll.out)
       have HG4:=hid (HBG.out.below HAll.out)
       obtain ⟨⟨c0,c1,c2,c3,c4,c5,c6,c7,c8⟩,⟨f0,f1,f2,f3,f4,f5,f6,f7,f8⟩⟩:=cells9 (y0:=.int .u16 0) (y1:=.int .u16 0) (y2:=.int .u16 0) (y3:=.int .u16 0) (y4:=.int .u16 0) (y5:=.int .u16 0) (y6:=.int .u16 0) (y7:=.int .u16 0) (y8:=.int .i64 0) HG4.out
       have HFill:=hid (fill9 (y0:=.int .u16 0) (y1:=.int .u16 0) (y2:=.int .u16 0) (y3:=.int .u16 0) (y4:=.int .u16 0) (y5:=.int .u16 0) (y6:=.int .u16 0) (y7:=.int .u16 0) (y8:=.int .i64 0) HG4.out HB4.out HGl.out HB4.out.size (.int .u16 0) (.int .u16 0) (.int .u16 0) (.int .u16 0) (.int .u16 0) (.int .u16 0) (.int .u16 0) (.int .u16 0) (.int .i64 0))
       go_wp2_with fail
       generalize (((((((((w4.setCell ⟨G,0,none⟩ (.int .u16 0)).setCell ⟨G,1,none⟩ (.int .u16 0)).setCell ⟨G,2,none⟩ (.int .u16 0)).setCell ⟨G,3,none⟩ (.int .u16 0)).setCell ⟨G,4,none⟩ (.int .u16 0)).setCell ⟨G,5,none⟩ (.int .u16 0)).setCell ⟨G,6,none⟩ (.int .u16 0)).setCell ⟨G,7,none⟩ (.int .u16 0)).setCell ⟨G,8,none⟩ (.int .i64 0))=W9 at *
       obtain ⟨⟨g0,g1,g2,g3,g4,g5,g6,g7,g8⟩,-⟩:=cells9 HFill.out.1
       have HBL:=hid HFill.out.2
       clear HFill c0 c1 c2 c3 c4 c5 c6 c7 c8 f0 f1 f2 f3 f4 f5 f6 f7 f8
       refine bodyPost_ret (by simp [results,Tryz.results147,go_sem,g0,g1,g2,g3,g4,g5,g6,g7,g8];try rfl) rfl ?_
       exact RPost.no 0 0 0 0 0 0 0 0 0 (by decide) HX.out HBL.out
     | some a =>
       obtain ⟨hca,hx⟩:=HNS.out a hp
       simp only [Option.isSome_some]
       by_cases hm8:8 < nl+c
       ·have HX:=hid (HAt.out.cut_many hsp hp (by omega))
        have g1:(8:Int) < (nl:Int)+(c:Int):=by omega
        clear hp hca hx hm8
        go_upto_region 7 with fail
        generalize w3.alloc (.cells #[.int .u16 (x0:Int),.int .u16 (x1:Int),.int .u16 (x2:Int),.int .u16 (x3:Int),.int .u16 (x4:Int),.int .u16 (x5:Int),.int .u16 (x6:Int),.int .u16 (x7:Int),.int .i64 (c:Int)] 153)=w4 at *
        generalize w3.heap.size=N at *
        have HB4:=hid (below_trans HB.out HAll.out)
        have HG4:=hid (HBG.out.below HAll.out)
        have HR4:=HBR.out.below HAll.out
        have r8:=(HR4.cell 8 (by rw [rowC_len HN8.out];decide)).1
        rw [rowC_last HN8.out,hnl] at r8
        have m8:=(HNew.out.cell 8 (by show 8 < 9;decide)).1
        change w4.cell? ⟨N,8,none⟩=some (.int .i64 (c:Int)) at m8
        change w4.cell? ⟨R,8,none⟩=some (.int .i64 (nl:Int)) at r8
        obtain ⟨⟨c0,c1,c2,c3,c4,c5,c6,c7,c8⟩,⟨f0,f1,f2,f3,f4,f5,f6,f7,f8⟩⟩:=cells9 (y0:=.int .u16 0) (y1:=.int .u16 0) (y2:=.int .u16 0) (y3:=.int .u16 0) (y4:=.int .u16 0) (y5:=.int .u16 0) (y6:=.int .u16 0) (y7:=.int .u16 0) (y8:=.int .i64 0) HG4.out
        have HFill:=hid (fill9 (y0:=.int .u16 0) (y1:=.int .u16 0) (y2:=.int .u16 0) (y3:=.int .u16 0) (y4:=.int .u16 0) (y5:=.int .u16 0) (y6:=.int .u16 0) (y7:=.int .u16 0) (y8:=.int .i64 0) HG4.out HB4.out HGl.out HB4.out.size (.int .u16 0) (.int .u16 0) (.int .u16 0) (.int .u16 0) (.int .u16 0) (.int .u16 0) (.int .u16 0) (.int .u16 0) (.int .i64 0))
        clear HR4 hnl
        go_wp2_with fail
        generalize (((((((((w4.setCell ⟨G,0,none⟩ (.int .u16 0)).setCell ⟨G,1,none⟩ (.int .u16 0)).setCell ⟨G,2,none⟩ (.int .u16 0)).setCell ⟨G,3,none⟩ (.int .u16 0)).setCell ⟨G,4,none⟩ (.int .u16 0)).setCell ⟨G,5,none⟩ (.int .u16 0)).setCell ⟨G,6,none⟩ (.int .u16 0)).setCell ⟨G,7,none⟩ (.int .u16 0)).setCell ⟨G,8,none⟩ (.int .i64 0))=W9 at *
        obtain ⟨⟨g0,g1,g2,g3,g4,g5,g6,g7,g8⟩,-⟩:=cells9 HFill.out.1
        have HBL:=hid HFill.out.2
        clear HFill c0 c1 c2 c3 c4 c5 c6 c7 c8 f0 f1 f2 f3 f4 f5 f6 f7 f8
        refine bodyPost_ret (by simp [results,Tryz.results147,go_sem,g0,g1,g2,g3,g4,g5,g6,g7,g8];try rfl) rfl ?_
        exact RPost.no 0 0 0 0 0 0 0 0 0 (by decide) HX.out HBL.out
       ·have HAt2:=hid (HAt.out.cut hsp hp (by omega) )
        have g1:¬(8:Int) < (nl:Int)+(c:Int):=by omega
        have HCA:=hid hca
        have HC1:Hid (1≤c):=by show 1≤c;rw [hca];exact pcR_pos hp
        have HXX:=hid hx
        have HM8:=hid hm8
        clear hp hca hx hm8
        go_upto_region 7 with fail
        have HNR:Hid (w3.heap.size≠R):=by have h1:=HBR.out.lt;have h2:=HSz.out;show¬_;omega
        generalize w3.alloc (.cells #[.int .u16 (x0:Int),.int .u16 (x1:Int),.int .u16 (x2:Int),.int .u16 (x3:Int),.int .u16 (x4:Int),.int .u16 (x5:Int),.int .u16 (x6:Int),.int .u16 (x7:Int),.int .i64 (c:Int)] 153)=w4 at *
        generalize w3.heap.size=N at *
        have HB4:=hid (below_trans HB.out HAll.out)
        have HG4:=hid (HBG.out.below HAll.out)
        have HR4:=hid (HBR.out.below HAll.out)
        have r8:=(HR4.out.cell 8 (by rw [rowC_len HN8.out];decide)).1
        rw [rowC_last HN8.out,hnl] at r8
        have m8:=(HNew.out.cell 8 (by show 8 < 9;decide)).1
        change w4.cell? ⟨N,8,none⟩=some (.int .i64 (c:Int)) at m8
        change w4.cell? ⟨R,8,none⟩=some (.int .i64 (nl:Int)) at r8
        have hc1:=HC1.out
        have nn:(nl:Int) < 8:=by have:=HM8.out;omega
        have nne:(nl=8)=False:=by simp;omega
        have hcl:c≤8:=HC8.out
        have HGr:Hid (w4.drew.heap[R]? = some (.cells (rowC ns).toArray 153)):=by
         have h:=HR4.out
         rw [show (rowC ns)=(rowC ns).map idV from (List.map_id _).symm]
         exact h
        have HGr4:Hid (w4.heap[R]? = some (.cells (rowC ns).toArray 153)):=HGr.out
        have hal:a.length≤8:=by rw [← HCA.out];exact hcl
        have HSrc:Hid (∀j u,(a.map f16)[j]? = some u→w4.drew.cell? ((⟨N,0,none⟩:Addr).add j)=some u):=row_src HNew.out HXX.out hal
        have HN1:Hid ((a.map f16).length=Nat.min c (8-nl)):=by
         show _=_
         rw [List.length_map,← HCA.out]
         have:=HM8.out
         exact (Nat.min_eq_left (by omega)).symm
        have HFit:Hid (nl+(a.map f16).length≤(rowC ns).toArray.size):=by
         show _≤_
         rw [List.length_map,List.size_toArray,rowC_len HN8.out,← HCA.out]
         have:=HM8.out
         omega
        have hNR:N≠R:=HNR.out
        have hsum:ns.length+a.length≤8:=by rw [HNL.out,← HCA.out];have:=HM8.out;omega
        have HD:Hid (∀w5,Copied w4 w5 R (splice (rowC ns) nl (a.map f16)) 153→(w5.cell? ⟨R,8,none⟩=some (.int .i64 (nl:Int))∧w5.cell? ⟨N,8,none⟩=some (.int .i64 (c:Int))∧w5.frozen? ⟨R,8,none⟩=false)):=fun w5 hcp=>by
         have hb:=hcp.bk
         rw [← HNL.out] at hb
         have h8:=hb.cell 8 (by rw [splice_len hsum];decide)
         rw [splice_last hsum,HNL.out] at h8
         exact ⟨h8.1,((hcp.other HNew.out hNR).cell 8 (by show 8 < 9;decide)).1,h8.2⟩
        have HE:Hid (∀w5,Copied w4 w5 R (splice (rowC ns) nl (a.map f16)) 153→(Bk9 (w5.setCell ⟨R,8,none⟩ (.int .i64 ((nl:Int)+(c:Int)))) R (rowC (ns++a))∧Bk9 (w5.setCell ⟨R,8,none⟩ (.int .i64 ((nl:Int)+(c:Int)))) G zero9∧Below w.heap.size w (w5.setCell ⟨R,8,none⟩ (.int .i64 ((nl:Int)+(c:Int)))))):=fun w5 hcp=>by
         have hb:=hcp.bk
         rw [← HNL.out] at hb
         have hs:=hb.set 8 (.int .i64 ((ns.length+a.length:Nat):Int))
         rw [rowC_put hsum,HNL.out,← HCA.out] at hs
         refine ⟨hs,(hcp.other HG4.out HGR.out).other _ _ HGR.out,belowSet (hcp.2.2.2 _ _ HB4.out HRl.out) HRl.out ?_ 8 _⟩
         rw [hcp.2.2.1]
         exact HB4.out.size
        clear hnl hc1 hcl hal hNR hsum
        go_wp2_with fail
        go_region_held3 (fun w'=>w'.cell? ⟨R,8,none⟩=some (.int .i64 (nl:Int))∧w'.cell? ⟨N,8,none⟩=some (.int .i64 (c:Int))) (first | exact ⟨d1,d2⟩ | go_keep) ((refine step_copy_row rfl (.tmp 46) (.tmp 50) 85 85 rfl 23 (by kernel_rfl) (by kernel_rfl) R nl ⟨N,0,none⟩ (8-nl) (8-nl) c 8 (by simp [Act.eval,Act.put,nne]<;>(intro h;omega)) rfl (rowC ns).toArray 153 HGr.out (a.map f16) HN1.out HSrc.out HFit.out one_f16 ?_;intro w5 hw5;have hcp:=copied_of HGr4.out hw5;obtain ⟨d1,d2,d3⟩:=HD.out w5 hcp))
        all_goals
         have HE5:=hid (HE.out _ hcp)
         clear hcp hw5 HE HD
         go_wp2_with fail
         go_roundw
         case rel=>exact ⟨true,rb,ns++a,rfl,rfl,HAt2.out,HRst.out,HE5.out.1,HE5.out.2.1,HE5.out.2.2,HMw.out.below HE5.out.2.2⟩
         case measure=>show rb.length+1 < r.length+1;have:=HLn.out;omega
theorem prow_calls (last:Bool) (s:ByteArray) (w:World) (hs:s.size≤100000) (hm:MaxL w):Calls Tryz.prog 147 #[.string s,.bool last] w fun e w'=>RPost (rowR last s.data.toList) w e w':=by
 cases last with
 | false=>exact prow_false s w hs hm
 | true=>exact prow_true s w hs hm
end Go.Proofs.YtigfgloenjoeoaaGreatDoor
