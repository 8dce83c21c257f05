import Derived.Test.YtigfgloenjoeoaaGreatDoorLcBS
import Derived.Shelf.Strings.Replace
import Derived.Test.YtigfgloenjoeoaaGreatDoorLcBT
import Derived.Test.YtigfgloenjoeoaaGreatDoorLcBR
import Derived.Test.YtigfgloenjoeoaaGreatDoorLcAZ
set_option linter.unusedVariables false
set_option linter.unusedSimpArgs false
set_option maxRecDepth 20000
set_option maxHeartbeats 16000000
namespace Go.Proofs.YtigfgloenjoeoaaGreatDoor
open Go.RowKit Go.Shelf
def replAllRen:Ren:=⟨fun | 138=>215 | 143=>206 | 154=>204 | 155=>191 | 165=>156 | 166=>157 | 169=>158 | 195=>223 | 197=>216 | 217=>202 | 218=>224 | 219=>192 | 224=>186 | 225=>187 | 240=>182 | 241=>183 | 260=>225 | 266=>213 | 267=>205 | 276=>200 | 277=>201 | 314=>217 | n=>n,fun | 0=>0 | 3=>3 | 4=>4 | 5=>5 | 9=>9 | 20=>20 | 21=>21 | 37=>73 | 46=>87 | 51=>22 | 70=>165 | 72=>167 | 75=>170 | 76=>171 | 80=>173 | 105=>222 | 119=>229 | 127=>77 | 138=>231 | 139=>232 | 146=>78 | 164=>211 | n=>n,fun | 1=>0 | 3=>5 | 4=>6 | n=>n⟩
theorem replAllLays:Lays.n155 Tryz.prog replAllRen :=
 {mixed:=by kernel_rfl
  f138:=Tryz.func215.trans (congrArg some (by kernel_rfl))
  f143:=Tryz.func206.trans (congrArg some (by kernel_rfl))
  f154:=Tryz.func204.trans (congrArg some (by kernel_rfl))
  f155:=Tryz.func191.trans (congrArg some (by kernel_rfl))
  f165:=Tryz.func156.trans (congrArg some (by kernel_rfl))
  f166:=Tryz.func157.trans (congrArg some (by kernel_rfl))
  f169:=Tryz.func158.trans (congrArg some (by kernel_rfl))
  f195:=Tryz.func223.trans (congrArg some (by kernel_rfl))
  f197:=Tryz.func216.trans (congrArg some (by kernel_rfl))
  f217:=Tryz.func202.trans (congrArg some (by kernel_rfl))
  f218:=Tryz.func224.trans (congrArg some (by kernel_rfl))
  f219:=Tryz.func192.trans (congrArg some (by kernel_rfl))
  f224:=Tryz.func186.trans (congrArg some (by kernel_rfl))
  f225:=Tryz.func187.trans (congrArg some (by kernel_rfl))
  f240:=Tryz.func182.trans (congrArg some (by kernel_rfl))
  f241:=Tryz.func183.trans (congrArg some (by kernel_rfl))
  f260:=Tryz.func225.trans (congrArg some (by kernel_rfl))
  f266:=Tryz.func213.trans (congrArg some (by kernel_rfl))
  f267:=Tryz.func205.trans (congrArg some (by kernel_rfl))
  f276:=Tryz.func200.trans (congrArg some (by kernel_rfl))
  f277:=Tryz.func201.trans (congrArg some (by kernel_rfl))
  f314:=Tryz.func217.trans (congrArg some (by kernel_rfl))
  t0:=Tryz.underlying0
  a0:=Tryz.isAgg0
  z0:=Tryz.sizeOf0
  v0:=Tryz.zeroValue0
  t3:=Tryz.underlying3
  a3:=Tryz.isAgg3
  z3:=Tryz.sizeOf3
  v3:=Tryz.zeroValue3
  t4:=Tryz.underlying4
  a4:=Tryz.isAgg4
  z4:=Tryz.sizeOf4
  v4:=Tryz.zeroValue4
  t5:=Tryz.underlying5
  a5:=Tryz.isAgg5
  z5:=Tryz.sizeOf5
  v5:=Tryz.zeroValue5
  t9:=Tryz.underlying9
  a9:=Tryz.isAgg9
  z9:=Tryz.sizeOf9
  v9:=Tryz.zeroValue9
  t20:=Tryz.underlying20
  a20:=Tryz.isAgg20
  z20:=Tryz.sizeOf20
  v20:=Tryz.zeroValue20
  t21:=Tryz.underlying21
  a21:=Tryz.isAgg21
  z21:=Tryz.sizeOf21
  v21:=Tryz.zeroValue21
  t37:=Tryz.underlying73
  a37:=Tryz.isAgg73
  z37:=Tryz.sizeOf73
  v37:=Tryz.zeroValue73
  t46:=Tryz.underlying87
  a46:=Tryz.isAgg87
  z46:=Tryz.sizeOf87
  v46:=Tryz.zeroValue87
  t51:=Tryz.underlying22
  a51:=Tryz.isAgg22
  z51:=Tryz.sizeOf22
  v51:=Tryz.zeroValue22
  t70:=Tryz.underlying165
  a70:=Tryz.isAgg165
  z70:=Tryz.sizeOf165
  v70:=Tryz.zeroValue165
  t72:=Tryz.underlying167
  a72:=Tryz.isAgg167
  z72:=Tryz.sizeOf167
  v72:=Tryz.zeroValue167
  t75:=Tryz.underlying170
  a75:=Tryz.isAgg170
  z75:=Tryz.sizeOf170
  v75:=Tryz.zeroValue170
  t76:=Tryz.underlying171
  a76:=Tryz.isAgg171
  z76:=Tryz.sizeOf171
  v76:=Tryz.zeroValue171
  t105:=Tryz.underlying222
  a105:=Tryz.isAgg222
  z105:=Tryz.sizeOf222
  v105:=Tryz.zeroValue222
  t119:=Tryz.underlying229
  a119:=Tryz.isAgg229
  z119:=Tryz.sizeOf229
  t127:=Tryz.underlying77
  a127:=Tryz.isAgg77
  z127:=Tryz.sizeOf77
  v127:=Tryz.zeroValue77
  t138:=Tryz.underlying231
  a138:=Tryz.isAgg231
  z138:=Tryz.sizeOf231
  v138:=Tryz.zeroValue231
  t139:=Tryz.underlying232
  a139:=Tryz.isAgg232
  z139:=Tryz.sizeOf232
  v139:=Tryz.zeroValue232
  t146:=Tryz.underlying78
  a146:=Tryz.isAgg78
  z146:=Tryz.sizeOf78
  v146:=Tryz.zeroValue78
  t164:=Tryz.underlying211
  a164:=Tryz.isAgg211
  z164:=Tryz.sizeOf211
  v164:=Tryz.zeroValue211
  g1:=by kernel_rfl
  g3:=by kernel_rfl
  g4:=by kernel_rfl }
theorem replAllExtra:Builder.Extra Tryz.prog replAllRen :=
 {sizeBuilder:=by kernel_rfl
  liesBuilder:=by kernel_rfl
  t5:=Tryz.underlying5
  a5:=Tryz.isAgg5
  z5:=Tryz.sizeOf5
  v5:=Tryz.zeroValue5
  infoByte:=by kernel_rfl
  cellsByte:=by kernel_rfl
  sizeByte:=by kernel_rfl
  neB5:=by decide }
theorem replK_len (old new:List UInt8):∀(k:Nat) (s:List UInt8),(Lib.replaceK old new k s).length≤s.length+k * new.length
 | 0,s=>by simp [Lib.replaceK]
 | k+1,s=>by
   unfold Lib.replaceK
   split
   ·omega
   ·have:=replK_len old new k (s.drop ((Lib.index s old).toNat+old.length))
    simp only [List.length_append,List.length_take,List.length_drop] at this ⊢
    rw [Nat.succ_mul]
    omega
theorem replAll_calls (s old new:ByteArray) (w:World) (hs:s.size≤1000000) (T:MaxL w) (ho:1≤old.size) (hn:new.size≤1) :
 Calls Tryz.prog 191 #[.string s,.string old,.string new] w fun e w'=>e=.returned (.string (strOf (Lib.replaceAll s.data.toList old.data.toList new.data.toList)))∧Below w.heap.size w w':=by
 obtain ⟨m,hm⟩:=T
 have hc:=Lib.countB_mul_le old ho s.size s (Nat.le_refl _)
 have hc2:Lib.countB s old≤s.size:=Nat.le_trans (Nat.le_mul_of_pos_right _ (by omega)) hc
 have hc3:Lib.countB s old * new.size≤s.size * 1:=Nat.mul_le_mul hc2 hn
 exact Any.strings_ReplaceAll replAllLays replAllExtra s old new m w (by omega) hm ho (by omega)
theorem replAll_len (s old new:List UInt8) (hn:new.length≤1) (ho:1≤old.length):(Lib.replaceAll s old new).length≤2 * s.length:=by
 unfold Lib.replaceAll Lib.replace
 split
 ·omega
 ·have h1:=replK_len old new (Lib.replaceNum s old (-1)) s
  have h2:Lib.replaceNum s old (-1)≤s.length:=by
   unfold Lib.replaceNum
   rw [if_pos (Or.inl (by omega))]
   have hc:=Lib.countB_mul_le (strOf old) ho s.length (strOf s) (Nat.le_refl _)
   exact Nat.le_trans (Nat.le_mul_of_pos_right _ (by show 0 < old.length;omega)) hc
  have h3:=Nat.mul_le_mul h2 hn
  omega
def pdR (l:List UInt8):List UInt8:=Lib.replaceAll (Lib.replaceAll l [37,50,101] [46]) [37,50,69] [46]
theorem uplain_calls (s:ByteArray) (w:World) (hs:s.size≤100000) (T:MaxL w) :
 Calls Tryz.prog 174 #[.string s] w fun e w'=>e=.returned (.string (strOf (pdR s.data.toList)))∧Below w.heap.size w w':=by
 have HT:=hid T
 have H1:=hid (replAll_calls s ⟨#[37,50,101]⟩ ⟨#[46]⟩ w (by omega) T (by decide) (by decide))
 have hl:=replAll_len s.data.toList [37,50,101] [46] (by decide) (by decide)
 rw [bytes_num] at hl
 have H2:=hid (fun w1 t=>replAll_calls (strOf (Lib.replaceAll s.data.toList [37,50,101] [46])) ⟨#[37,50,69]⟩ ⟨#[46]⟩ w1 (by show (Lib.replaceAll s.data.toList [37,50,101] [46]).length≤_;omega) t (by decide) (by decide))
 clear hs T hl
 go_enter Tryz.func174,Tryz.ntmps174
 go_wp2_with fail
 refine H1.out.mono ?_
 rintro e w1 ⟨rfl,hb1⟩
 have HB:=hid hb1
 clear hb1
 go_wp2_with fail
 refine (H2.out _ (HT.out.below HB.out)).mono ?_
 rintro e w2 ⟨rfl,hb2⟩
 have HB2:=hid (below_trans HB.out hb2)
 clear hb2
 go_wp2_with fail
 go_ret
 exact ⟨rfl,HB2.out⟩
end Go.Proofs.YtigfgloenjoeoaaGreatDoor
namespace Go.Proofs.YtigfgloenjoeoaaGreatDoor
open Go.RowKit
def pieceQ (m:MaR) (s:List UInt8) (sl:Bool):MaR :=
 if pdR s=[46,46] then (if sl=true then shortM m else pushM (shortM m) [])
 else if pdR s=[46] then (if sl=true then m else pushM m [])
 else pushM m s
def pathQ (x:RdP) (c:Int):MvP :=
 if (!slashM x.m c&&!endsB c)=true then (x.on (gatherM · c),13,1,0)
 else if endsB c=true then leaveP (x.on (fun m=>pieceQ (takeM m) (encU 5 x.m.buf) (slashM x.m c))) c
 else (x.on (fun m=>pieceQ (takeM m) (encU 5 x.m.buf) (slashM x.m c)),13,1,0)
section
variable {E:Prop} {W w w':World} {B g R:Nat} {x:RdP} {tv bpv upv bv uv pv:Value}
theorem str_mt {v:Value} {l:List (List UInt8)} (h:PathO w B v l):∀k,v.ownBlock=some k→∃cs t fr,w.heap[k]? = some (Obj.cells cs t fr)∧¬KT t:=fun k e=>by obtain ⟨cs,fr,hh⟩:=(own_trow h).2 k e;exact ⟨cs,_,fr,hh,by decide⟩
theorem str_rt {v:Value} {l:List (List UInt8)} (h:PathO w B v l):∀k,v.ownBlock=some k→∃cs t fr,w.heap[k]? = some (Obj.cells cs t fr)∧t≠RT:=fun k e=>by obtain ⟨cs,fr,hh⟩:=(own_trow h).2 k e;exact ⟨cs,_,fr,hh,by decide⟩
theorem St.mono {E':Prop} (h:St E W w B g R x tv bpv upv bv uv pv) (he:E'→E):St E' W w B g R x tv bpv upv bv uv pv:=⟨h.rd.mono he,h.res,h.bs,h.low,h.bel,h.keep⟩
theorem St.late (h:St E W w B g R x tv bpv upv bv uv pv):St False W w B g R x tv bpv upv bv uv pv:=h.mono (fun h=>h.elim)
theorem St.pathGrow {upv':Value} {l:List (List UInt8)} (h:St E W w B g R x tv bpv upv bv uv pv) (hG:Grew w w' B upv upv') (ho:PathO w' B upv' l) :
 w'.cell? ⟨g,44,none⟩=some upv∧w'.frozen? ⟨g,44,none⟩=false∧St False W (w'.setCell ⟨g,44,none⟩ upv') B g R (x.on (fun m=>{ m with u:={ m.u with path:=l } })) tv bpv upv' bv uv pv:=by
 have hc:=hG.rd h.rd.c (str_rt h.rd.r.q)
 have hk:=hG.keep (str_mt h.rd.r.q)
 refine ⟨(hc.cell 44 rfl).1,(hc.cell 44 rfl).2,⟨h.rd.bg,hc.set 44 upv',(h.rd.r.growQ hG ho).set hc 44 upv',(h.rd.tab.below hG.bel).below (setB w' h.rd.bg 44 upv')⟩,?_,h.bs,h.low,(h.bel.trans hG.bel).setCell (p:=⟨g,44,none⟩) h.rd.bg upv',(h.keep.trans hk).trans (keepSet hc)⟩
 exact (h.res.kept (hk R _ MT _ (Or.inl rfl) h.res)).kept (heap_setCell_other w' _ _ _ (fun e=>h.ne e))
end
end Go.Proofs.YtigfgloenjoeoaaGreatDoor
namespace Go.Proofs.YtigfgloenjoeoaaGreatDoor
open Go.RowKit
theorem uaddPiece_calls {E:Prop} {W w:World} {B g R:Nat} {x:RdP} {tv bpv upv bv uv pv:Value} (h:St E W w B g R x tv bpv upv bv uv pv) (L:List UInt8) (sl:Bool) (hq:x.m.u.path.length≤100000) (hL:L.length≤100000) :
 Calls Tryz.prog 145 #[.pointer (some ⟨g,0,none⟩),.string (strOf L),.bool sl] w fun e w'=>e=.returned (.tuple #[])∧∃upv',St False W w' B g R (x.on (pieceQ · L sl)) tv bpv upv' bv uv pv:=by
 have HS:=hid h
 have HPd:=hid (uplain_calls (strOf L) w hL h.rd.tab.now.1)
 rw [str_data] at HPd
 clear h
 unfold pieceQ
 obtain ⟨P,hP⟩:∃P,pdR L=P:=⟨_,rfl⟩
 rw [hP] at HPd
 simp only [hP]
 clear hP
 have e2:((strOf P).toList==[46,46])=decide (P=[46,46]):=by rw [strOf_list];by_cases h:P=[46,46];(rw [decide_eq_true h];simpa using h);(rw [decide_eq_false h];simpa using h)
 have e1:((strOf P).toList==[46])=decide (P=[46]):=by rw [strOf_list];by_cases h:P=[46];(rw [decide_eq_true h];simpa using h);(rw [decide_eq_false h];simpa using h)
 obtain ⟨qa,qc,hbv,-⟩:=HS.out.rd.r.q.row
 subst hbv
 by_cases h2:P=[46,46]
 ·rw [decide_eq_true h2] at e2
  simp only [if_pos h2]
  clear h2
  cases sl
  ·simp only [Bool.false_eq_true,if_false]
   go_enter Tryz.func145,Tryz.ntmps145
   go_wp2_with fail
   refine HPd.out.mono ?_
   rintro e w1 ⟨rfl,hb1⟩
   replace HS:=hid (HS.out.below hb1)
   clear hb1 HPd
   go_wp2_with fail
   refine (ushorten_calls HS.out hq).mono ?_
   rintro e w2 ⟨rfl,upv2,hT⟩
   replace HS:=hid hT
   clear hT e1 e2
   obtain ⟨qa2,qc2,hbv2,-⟩:=HS.out.rd.r.q.row
   subst hbv2
   have c44:=HS.out.rd.at 44 rfl
   have f44:=HS.out.rd.free 44 (by decide)
   obtain ⟨v5,w5,hr5,ho5,hg5⟩:=push_str (xs:=x.m.u.path.dropLast) HS.out.rd.r.q ([]:List UInt8) (by rw [List.length_dropLast];omega) HS.out.rd.bs
   obtain ⟨a5,q5,rfl,-⟩:=id ho5.row
   have HG5:=HS.out.pathGrow hg5 ho5
   rw [show (x.m.u.path.dropLast++[([]:List UInt8)]).length=x.m.u.path.length-1+1 by simp] at HG5 hr5
   have c5:=HG5.1
   have f5:=HG5.2.1
   replace HS:=hid HG5.2.2
   clear HG5 hg5 ho5
   go_wp2_with (at_builtin;refine wpList_append_run hr5 rfl _ _ rfl rfl rfl rfl ?_)
   go_end0
   exact ⟨rfl,_,HS.out⟩
  ·simp only [if_true]
   go_enter Tryz.func145,Tryz.ntmps145
   go_wp2_with fail
   refine HPd.out.mono ?_
   rintro e w1 ⟨rfl,hb1⟩
   replace HS:=hid (HS.out.below hb1)
   clear hb1 HPd
   go_wp2_with fail
   refine (ushorten_calls HS.out hq).mono ?_
   rintro e w2 ⟨rfl,upv2,hT⟩
   replace HS:=hid hT
   clear hT e1 e2
   go_wp2_with fail
   go_end0
   exact ⟨rfl,_,HS.out⟩
 ·rw [decide_eq_false h2] at e2
  simp only [if_neg h2]
  clear h2
  by_cases h1:P=[46]
  ·rw [decide_eq_true h1] at e1
   simp only [if_pos h1]
   clear h1
   cases sl
   ·simp only [Bool.false_eq_true,if_false]
    go_enter Tryz.func145,Tryz.ntmps145
    go_wp2_with fail
    refine HPd.out.mono ?_
    rintro e w1 ⟨rfl,hb1⟩
    replace HS:=hid (HS.out.below hb1)
    clear hb1 HPd
    have c44:=HS.out.rd.at 44 rfl
    have f44:=HS.out.rd.free 44 (by decide)
    obtain ⟨v5,w5,hr5,ho5,hg5⟩:=push_str (xs:=x.m.u.path) HS.out.rd.r.q ([]:List UInt8) (by omega) HS.out.rd.bs
    obtain ⟨a5,q5,rfl,-⟩:=id ho5.row
    have HG5:=HS.out.pathGrow hg5 ho5
    rw [show (x.m.u.path++[([]:List UInt8)]).length=x.m.u.path.length+1 by simp] at HG5 hr5
    have c5:=HG5.1
    have f5:=HG5.2.1
    replace HS:=hid HG5.2.2
    clear HG5 hg5 ho5
    go_wp2_with (at_builtin;refine wpList_append_run hr5 rfl _ _ rfl rfl rfl rfl ?_)
    go_end0
    exact ⟨rfl,_,HS.out⟩
   ·simp only [if_true]
    go_enter Tryz.func145,Tryz.ntmps145
    go_wp2_with fail
    refine HPd.out.mono ?_
    rintro e w1 ⟨rfl,hb1⟩
    replace HS:=hid (HS.out.below hb1)
    clear hb1 HPd
    go_wp2_with fail
    go_end0
    exact ⟨rfl,_,HS.out.late⟩
  ·rw [decide_eq_false h1] at e1
   simp only [if_neg h1]
   clear h1
   go_enter Tryz.func145,Tryz.ntmps145
   go_wp2_with fail
   refine HPd.out.mono ?_
   rintro e w1 ⟨rfl,hb1⟩
   replace HS:=hid (HS.out.below hb1)
   clear hb1 HPd
   have c44:=HS.out.rd.at 44 rfl
   have f44:=HS.out.rd.free 44 (by decide)
   obtain ⟨v5,w5,hr5,ho5,hg5⟩:=push_str (xs:=x.m.u.path) HS.out.rd.r.q L (by omega) HS.out.rd.bs
   obtain ⟨a5,q5,rfl,-⟩:=id ho5.row
   have HG5:=HS.out.pathGrow hg5 ho5
   rw [show (x.m.u.path++[L]).length=x.m.u.path.length+1 by simp] at HG5 hr5
   have c5:=HG5.1
   have f5:=HG5.2.1
   replace HS:=hid HG5.2.2
   clear HG5 hg5 ho5
   go_wp2_with (at_builtin;refine wpList_append_run hr5 rfl _ _ rfl rfl rfl rfl ?_)
   refine bodyPost_ret (by simp [results,Tryz.results145,go_sem];try rfl) rfl ?_
   exact ⟨rfl,_,HS.out⟩
theorem upath_calls {E:Prop} {w:World} {B g:Nat} {x:RdP} {tv bpv upv bv uv pv:Value} (h:Rd E w B g x tv bpv upv bv uv pv) (c:Int) (hb:x.m.buf.length≤8000) (hq:x.m.u.path.length≤100000) :
 Calls Tryz.prog 101 #[.pointer (some ⟨g,0,none⟩),.int .i64 c] w fun e w'=>MP B g (pathQ x c) w e w':=by
 have HS:=hid (St.new h)
 unfold pathQ
 clear h
 have HL:Hid ((encU 5 x.m.buf).length≤100000):=by
  have h1:=(pctR_len 5 (textL x.m.buf)).2
  have h2:=text_len x.m.buf
  show (pctR 5 (textL x.m.buf)).length≤_
  omega
 obtain ⟨sl,hsl⟩:∃b,slashM x.m c=b:=⟨_,rfl⟩
 rw [hsl]
 have HEn:=hid (fun w=>uends_calls c w)
 cases hn:endsB c
 ·rw [hn] at HEn
  cases sl
  ·rw [if_pos (by rfl)]
   go_enter Tryz.func101,Tryz.ntmps101
   go_upto_region 1 with fail
   generalize w.alloc (.cells #[.int .i64 0,.int .i64 0,.int .i64 0] MT)=w0 at *
   generalize w.heap.size=R at *
   have HSl:=hid (uslash_calls HS.out.rd c)
   rw [hsl] at HSl
   have c49:=HS.out.rd.at 49 rfl
   have f49:=HS.out.rd.free 49 (by decide)
   go_wp2_with fail
   refine (HSl.out).mono ?_
   rintro e w1 ⟨rfl,rfl⟩
   go_wp2_with fail
   refine (HEn.out _).mono ?_
   rintro e w1 ⟨rfl,rfl⟩
   have HN:=World.new_ne _ _ c49
   obtain ⟨v5,w5,hr5,ho5,hg5⟩:=push_int (xs:=x.m.buf) HS.out.rd.r.b c (by omega) HS.out.rd.bs
   obtain ⟨a5,q5,rfl,-⟩:=id ho5.row
   have HG5:=HS.out.gather hg5 ho5
   rw [show (x.m.buf++[c]).length=x.m.buf.length+1 by simp] at HG5 hr5
   have c5:=HG5.1
   have f5:=HG5.2.1
   replace HS:=hid HG5.2.2
   clear HG5 hg5 ho5 HN
   go_wp2_with (at_builtin;refine wpList_append_run hr5 rfl _ _ rfl rfl rfl rfl ?_)
   clear hr5 c5 f5 c49 f49
   refine (uon_calls 13 _).mono ?_
   rintro e w1 ⟨rfl,hb⟩
   replace HS:=hid (HS.out.below hb)
   clear hb
   obtain ⟨d0,e0⟩:=HS.out.res.cell 0 rfl
   obtain ⟨d1,e1⟩:=HS.out.res.cell 1 rfl
   obtain ⟨d2,e2⟩:=HS.out.res.cell 2 rfl
   go_wp2_with fail
   refine bodyPost_ret (by simp [results,Tryz.results101,go_sem,d0,d1,d2];try rfl) rfl ?_
   exact HS.out.told (fun h=>absurd h (by decide))
  ·rw [if_neg (by decide),if_neg (by decide)]
   go_enter Tryz.func101,Tryz.ntmps101
   go_upto_region 1 with fail
   generalize w.alloc (.cells #[.int .i64 0,.int .i64 0,.int .i64 0] MT)=w0 at *
   generalize w.heap.size=R at *
   have HSl:=hid (uslash_calls HS.out.rd c)
   rw [hsl] at HSl
   go_wp2_with fail
   refine (HSl.out).mono ?_
   rintro e w1 ⟨rfl,rfl⟩
   go_wp2_with fail
   refine (utake_calls HS.out).mono ?_
   rintro e w1 ⟨rfl,hT⟩
   replace HS:=hid hT.1
   have HRw:=hid hT.2.1.row
   clear hT HSl
   go_wp2_with fail
   refine (uenc_calls 5 _ _ _ HS.out.rd.tab.now.2 HRw.out (by omega)).mono ?_
   rintro e w2 ⟨rfl,hb2⟩
   replace HS:=hid (HS.out.below hb2)
   clear hb2 HRw
   have HSl:=hid (uslash_calls HS.out.rd c)
   rw [show slashM (x.on takeM).m c=slashM x.m c from rfl,hsl] at HSl
   go_wp2_with fail
   refine HSl.out.mono ?_
   rintro e w6 ⟨rfl,hw⟩
   subst hw
   clear HSl
   go_wp2_with fail
   refine (uaddPiece_calls HS.out (encU 5 x.m.buf) true hq HL.out).mono ?_
   rintro e w7 ⟨rfl,upv2,hT⟩
   replace HS:=hid hT
   clear hT
   go_wp2_with fail
   refine (HEn.out _).mono ?_
   rintro e w8 ⟨rfl,hw⟩
   subst hw
   go_wp2_with fail
   refine (uon_calls 13 _).mono ?_
   rintro e w1 ⟨rfl,hb⟩
   replace HS:=hid (HS.out.below hb)
   clear hb
   obtain ⟨d0,e0⟩:=HS.out.res.cell 0 rfl
   obtain ⟨d1,e1⟩:=HS.out.res.cell 1 rfl
   obtain ⟨d2,e2⟩:=HS.out.res.cell 2 rfl
   go_wp2_with fail
   refine bodyPost_ret (by simp [results,Tryz.results101,go_sem,d0,d1,d2];try rfl) rfl ?_
   exact HS.out.told (fun h=>absurd h (by decide))
 ·rw [hn] at HEn
  rw [if_neg (by cases sl<;>decide),if_pos rfl]
  cases sl
  ·skip
   go_enter Tryz.func101,Tryz.ntmps101
   go_upto_region 1 with fail
   generalize w.alloc (.cells #[.int .i64 0,.int .i64 0,.int .i64 0] MT)=w0 at *
   generalize w.heap.size=R at *
   have HSl:=hid (uslash_calls HS.out.rd c)
   rw [hsl] at HSl
   go_wp2_with fail
   refine (HSl.out).mono ?_
   rintro e w1 ⟨rfl,rfl⟩
   go_wp2_with fail
   refine (HEn.out _).mono ?_
   rintro e w1 ⟨rfl,rfl⟩
   go_wp2_with fail
   refine (utake_calls HS.out).mono ?_
   rintro e w1 ⟨rfl,hT⟩
   replace HS:=hid hT.1
   have HRw:=hid hT.2.1.row
   clear hT HSl
   go_wp2_with fail
   refine (uenc_calls 5 _ _ _ HS.out.rd.tab.now.2 HRw.out (by omega)).mono ?_
   rintro e w2 ⟨rfl,hb2⟩
   replace HS:=hid (HS.out.below hb2)
   clear hb2 HRw
   have HSl:=hid (uslash_calls HS.out.rd c)
   rw [show slashM (x.on takeM).m c=slashM x.m c from rfl,hsl] at HSl
   go_wp2_with fail
   refine HSl.out.mono ?_
   rintro e w6 ⟨rfl,hw⟩
   subst hw
   clear HSl
   go_wp2_with fail
   refine (uaddPiece_calls HS.out (encU 5 x.m.buf) false hq HL.out).mono ?_
   rintro e w7 ⟨rfl,upv2,hT⟩
   replace HS:=hid hT
   clear hT
   go_wp2_with fail
   refine (HEn.out _).mono ?_
   rintro e w8 ⟨rfl,hw⟩
   subst hw
   go_wp2_with fail
   refine (uleave_calls HS.out.rd c).mono ?_
   rintro e w1 ⟨rfl,hb,hk,hr⟩
   have HR1:=HS.out.res.kept (hk _ _ MT _ (Or.inl rfl) HS.out.res)
   obtain ⟨d0,e0⟩:=HR1.cell 0 rfl
   obtain ⟨d1,e1⟩:=HR1.cell 1 rfl
   obtain ⟨d2,e2⟩:=HR1.cell 2 rfl
   have HP:=hid (fun a b c=>St.pass HS.out hb hk hr (a:=a) (b:=b) (c:=c))
   clear hb hk hr HR1
   go_wp2_with fail
   refine bodyPost_ret (by simp [results,Tryz.results101,go_sem,d0,d1,d2];try rfl) rfl ?_
   exact HP.out _ _ _
  ·skip
   go_enter Tryz.func101,Tryz.ntmps101
   go_upto_region 1 with fail
   generalize w.alloc (.cells #[.int .i64 0,.int .i64 0,.int .i64 0] MT)=w0 at *
   generalize w.heap.size=R at *
   have HSl:=hid (uslash_calls HS.out.rd c)
   rw [hsl] at HSl
   go_wp2_with fail
   refine (HSl.out).mono ?_
   rintro e w1 ⟨rfl,rfl⟩
   go_wp2_with fail
   refine (utake_calls HS.out).mono ?_
   rintro e w1 ⟨rfl,hT⟩
   replace HS:=hid hT.1
   have HRw:=hid hT.2.1.row
   clear hT HSl
   go_wp2_with fail
   refine (uenc_calls 5 _ _ _ HS.out.rd.tab.now.2 HRw.out (by omega)).mono ?_
   rintro e w2 ⟨rfl,hb2⟩
   replace HS:=hid (HS.out.below hb2)
   clear hb2 HRw
   have HSl:=hid (uslash_calls HS.out.rd c)
   rw [show slashM (x.on takeM).m c=slashM x.m c from rfl,hsl] at HSl
   go_wp2_with fail
   refine HSl.out.mono ?_
   rintro e w6 ⟨rfl,hw⟩
   subst hw
   clear HSl
   go_wp2_with fail
   refine (uaddPiece_calls HS.out (encU 5 x.m.buf) true hq HL.out).mono ?_
   rintro e w7 ⟨rfl,upv2,hT⟩
   replace HS:=hid hT
   clear hT
   go_wp2_with fail
   refine (HEn.out _).mono ?_
   rintro e w8 ⟨rfl,hw⟩
   subst hw
   go_wp2_with fail
   refine (uleave_calls HS.out.rd c).mono ?_
   rintro e w1 ⟨rfl,hb,hk,hr⟩
   have HR1:=HS.out.res.kept (hk _ _ MT _ (Or.inl rfl) HS.out.res)
   obtain ⟨d0,e0⟩:=HR1.cell 0 rfl
   obtain ⟨d1,e1⟩:=HR1.cell 1 rfl
   obtain ⟨d2,e2⟩:=HR1.cell 2 rfl
   have HP:=hid (fun a b c=>St.pass HS.out hb hk hr (a:=a) (b:=b) (c:=c))
   clear hb hk hr HR1
   go_wp2_with fail
   refine bodyPost_ret (by simp [results,Tryz.results101,go_sem,d0,d1,d2];try rfl) rfl ?_
   exact HP.out _ _ _
theorem ustep0_calls {E:Prop} {w:World} {B g:Nat} {x:RdP} {tv bpv upv bv uv pv:Value} (h:Rd E w B g x tv bpv upv bv uv pv) (c:Int) (hE:E) (hb:x.m.buf.length≤x.m.p) (hp:x.m.p≤5000) :
 Calls Tryz.prog 68 #[.pointer (some ⟨g,0,none⟩),.int .i64 0,.int .i64 c] w fun e w'=>MP B g (beginP x c) w e w':=by
 have HS:=hid (St.new h)
 clear h
 go_enter Tryz.func68,Tryz.ntmps68
 go_upto_region 1 with fail
 generalize w.alloc (.cells #[.int .i64 0,.int .i64 0,.int .i64 0] MT)=w0 at *
 generalize w.heap.size=R at *
 go_wp2_with fail
 refine (ubegin_calls HS.out.rd c hE (by omega)).mono ?_
 rintro e w1 ⟨rfl,hb,hk,hr⟩
 have HR1:=HS.out.res.kept (hk _ _ MT _ (Or.inl rfl) HS.out.res)
 obtain ⟨d0,e0⟩:=HR1.cell 0 rfl
 obtain ⟨d1,e1⟩:=HR1.cell 1 rfl
 obtain ⟨d2,e2⟩:=HR1.cell 2 rfl
 have HP:=hid (fun a b c=>St.pass HS.out hb hk hr (a:=a) (b:=b) (c:=c))
 clear hb hk hr HR1
 go_wp2_with fail
 refine bodyPost_ret (by simp [results,Tryz.results68,go_sem,d0,d1,d2];try rfl) rfl ?_
 exact HP.out _ _ _
theorem ustep1_calls {E:Prop} {w:World} {B g:Nat} {x:RdP} {tv bpv upv bv uv pv:Value} (h:Rd E w B g x tv bpv upv bv uv pv) (c:Int) (hE:E) (hb:x.m.buf.length≤x.m.p) (hp:x.m.p≤5000) :
 Calls Tryz.prog 68 #[.pointer (some ⟨g,0,none⟩),.int .i64 1,.int .i64 c] w fun e w'=>MP B g (schemeP x c) w e w':=by
 have HS:=hid (St.new h)
 clear h
 go_enter Tryz.func68,Tryz.ntmps68
 go_upto_region 1 with fail
 generalize w.alloc (.cells #[.int .i64 0,.int .i64 0,.int .i64 0] MT)=w0 at *
 generalize w.heap.size=R at *
 go_wp2_with fail
 refine (uscheme_calls HS.out.rd c hE (by omega) (by omega)).mono ?_
 rintro e w1 ⟨rfl,hb,hk,hr⟩
 have HR1:=HS.out.res.kept (hk _ _ MT _ (Or.inl rfl) HS.out.res)
 obtain ⟨d0,e0⟩:=HR1.cell 0 rfl
 obtain ⟨d1,e1⟩:=HR1.cell 1 rfl
 obtain ⟨d2,e2⟩:=HR1.cell 2 rfl
 have HP:=hid (fun a b c=>St.pass HS.out hb hk hr (a:=a) (b:=b) (c:=c))
 clear hb hk hr HR1
 go_wp2_with fail
 refine bodyPost_ret (by simp [results,Tryz.results68,go_sem,d0,d1,d2];try rfl) rfl ?_
 exact HP.out _ _ _
theorem ustep2_calls {E:Prop} {w:World} {B g:Nat} {x:RdP} {tv bpv upv bv uv pv:Value} (h:Rd E w B g x tv bpv upv bv uv pv) (c:Int) (hE:E) :
 Calls Tryz.prog 68 #[.pointer (some ⟨g,0,none⟩),.int .i64 2,.int .i64 c] w fun e w'=>MP B g (noSchemeP x c) w e w':=by
 have HS:=hid (St.new h)
 clear h
 go_enter Tryz.func68,Tryz.ntmps68
 go_upto_region 1 with fail
 generalize w.alloc (.cells #[.int .i64 0,.int .i64 0,.int .i64 0] MT)=w0 at *
 generalize w.heap.size=R at *
 go_wp2_with fail
 refine (unoScheme_calls HS.out.rd c hE).mono ?_
 rintro e w1 ⟨rfl,hb,hk,hr⟩
 have HR1:=HS.out.res.kept (hk _ _ MT _ (Or.inl rfl) HS.out.res)
 obtain ⟨d0,e0⟩:=HR1.cell 0 rfl
 obtain ⟨d1,e1⟩:=HR1.cell 1 rfl
 obtain ⟨d2,e2⟩:=HR1.cell 2 rfl
 have HP:=hid (fun a b c=>St.pass HS.out hb hk hr (a:=a) (b:=b) (c:=c))
 clear hb hk hr HR1
 go_wp2_with fail
 refine bodyPost_ret (by simp [results,Tryz.results68,go_sem,d0,d1,d2];try rfl) rfl ?_
 exact HP.out _ _ _
theorem ustep3_calls {E:Prop} {w:World} {B g:Nat} {x:RdP} {tv bpv upv bv uv pv:Value} (h:Rd E w B g x tv bpv upv bv uv pv) (c:Int) (hE:E) (hb:x.m.buf.length≤x.m.p) (hp:x.m.p≤5000) :
 Calls Tryz.prog 68 #[.pointer (some ⟨g,0,none⟩),.int .i64 3,.int .i64 c] w fun e w'=>MP B g (slashOrP x c) w e w':=by
 have HS:=hid (St.new h)
 clear h
 go_enter Tryz.func68,Tryz.ntmps68
 go_upto_region 1 with fail
 generalize w.alloc (.cells #[.int .i64 0,.int .i64 0,.int .i64 0] MT)=w0 at *
 generalize w.heap.size=R at *
 go_wp2_with fail
 refine (uslashOr_calls HS.out.rd c hE (by omega)).mono ?_
 rintro e w1 ⟨rfl,hb,hk,hr⟩
 have HR1:=HS.out.res.kept (hk _ _ MT _ (Or.inl rfl) HS.out.res)
 obtain ⟨d0,e0⟩:=HR1.cell 0 rfl
 obtain ⟨d1,e1⟩:=HR1.cell 1 rfl
 obtain ⟨d2,e2⟩:=HR1.cell 2 rfl
 have HP:=hid (fun a b c=>St.pass HS.out hb hk hr (a:=a) (b:=b) (c:=c))
 clear hb hk hr HR1
 go_wp2_with fail
 refine bodyPost_ret (by simp [results,Tryz.results68,go_sem,d0,d1,d2];try rfl) rfl ?_
 exact HP.out _ _ _
theorem ustep4_calls {E:Prop} {w:World} {B g:Nat} {x:RdP} {tv bpv upv bv uv pv:Value} (h:Rd E w B g x tv bpv upv bv uv pv) (c:Int) :
 Calls Tryz.prog 68 #[.pointer (some ⟨g,0,none⟩),.int .i64 4,.int .i64 c] w fun e w'=>MP B g (slashP x c) w e w':=by
 have HS:=hid (St.new h)
 clear h
 go_enter Tryz.func68,Tryz.ntmps68
 go_upto_region 1 with fail
 generalize w.alloc (.cells #[.int .i64 0,.int .i64 0,.int .i64 0] MT)=w0 at *
 generalize w.heap.size=R at *
 go_wp2_with fail
 refine (uslashS_calls HS.out.rd c).mono ?_
 rintro e w1 ⟨rfl,hb,hk,hr⟩
 have HR1:=HS.out.res.kept (hk _ _ MT _ (Or.inl rfl) HS.out.res)
 obtain ⟨d0,e0⟩:=HR1.cell 0 rfl
 obtain ⟨d1,e1⟩:=HR1.cell 1 rfl
 obtain ⟨d2,e2⟩:=HR1.cell 2 rfl
 have HP:=hid (fun a b c=>St.pass HS.out hb hk hr (a:=a) (b:=b) (c:=c))
 clear hb hk hr HR1
 go_wp2_with fail
 refine bodyPost_ret (by simp [results,Tryz.results68,go_sem,d0,d1,d2];try rfl) rfl ?_
 exact HP.out _ _ _
theorem ustep5_calls {E:Prop} {w:World} {B g:Nat} {x:RdP} {tv bpv upv bv uv pv:Value} (h:Rd E w B g x tv bpv upv bv uv pv) (c:Int) (hE:E) (hqb:x.m.base.path.length≤100000) :
 Calls Tryz.prog 68 #[.pointer (some ⟨g,0,none⟩),.int .i64 5,.int .i64 c] w fun e w'=>MP B g (relativeP x c) w e w':=by
 have HS:=hid (St.new h)
 clear h
 go_enter Tryz.func68,Tryz.ntmps68
 go_upto_region 1 with fail
 generalize w.alloc (.cells #[.int .i64 0,.int .i64 0,.int .i64 0] MT)=w0 at *
 generalize w.heap.size=R at *
 go_wp2_with fail
 refine (urelative_calls HS.out.rd c hE hqb).mono ?_
 rintro e w1 ⟨rfl,hb,hk,hr⟩
 have HR1:=HS.out.res.kept (hk _ _ MT _ (Or.inl rfl) HS.out.res)
 obtain ⟨d0,e0⟩:=HR1.cell 0 rfl
 obtain ⟨d1,e1⟩:=HR1.cell 1 rfl
 obtain ⟨d2,e2⟩:=HR1.cell 2 rfl
 have HP:=hid (fun a b c=>St.pass HS.out hb hk hr (a:=a) (b:=b) (c:=c))
 clear hb hk hr HR1
 go_wp2_with fail
 refine bodyPost_ret (by simp [results,Tryz.results68,go_sem,d0,d1,d2];try rfl) rfl ?_
 exact HP.out _ _ _
theorem ustep6_calls {E:Prop} {w:World} {B g:Nat} {x:RdP} {tv bpv upv bv uv pv:Value} (h:Rd E w B g x tv bpv upv bv uv pv) (c:Int) :
 Calls Tryz.prog 68 #[.pointer (some ⟨g,0,none⟩),.int .i64 6,.int .i64 c] w fun e w'=>MP B g (relSlashP x c) w e w':=by
 have HS:=hid (St.new h)
 clear h
 go_enter Tryz.func68,Tryz.ntmps68
 go_upto_region 1 with fail
 generalize w.alloc (.cells #[.int .i64 0,.int .i64 0,.int .i64 0] MT)=w0 at *
 generalize w.heap.size=R at *
 go_wp2_with fail
 refine (urelSlash_calls HS.out.rd c).mono ?_
 rintro e w1 ⟨rfl,hb,hk,hr⟩
 have HR1:=HS.out.res.kept (hk _ _ MT _ (Or.inl rfl) HS.out.res)
 obtain ⟨d0,e0⟩:=HR1.cell 0 rfl
 obtain ⟨d1,e1⟩:=HR1.cell 1 rfl
 obtain ⟨d2,e2⟩:=HR1.cell 2 rfl
 have HP:=hid (fun a b c=>St.pass HS.out hb hk hr (a:=a) (b:=b) (c:=c))
 clear hb hk hr HR1
 go_wp2_with fail
 refine bodyPost_ret (by simp [results,Tryz.results68,go_sem,d0,d1,d2];try rfl) rfl ?_
 exact HP.out _ _ _
theorem ustep7_calls {E:Prop} {w:World} {B g:Nat} {x:RdP} {tv bpv upv bv uv pv:Value} (h:Rd E w B g x tv bpv upv bv uv pv) (c:Int) (hb:x.m.buf.length≤x.m.p) (hp:x.m.p≤5000) :
 Calls Tryz.prog 68 #[.pointer (some ⟨g,0,none⟩),.int .i64 7,.int .i64 c] w fun e w'=>MP B g (slashesP x c) w e w':=by
 have HS:=hid (St.new h)
 clear h
 go_enter Tryz.func68,Tryz.ntmps68
 go_upto_region 1 with fail
 generalize w.alloc (.cells #[.int .i64 0,.int .i64 0,.int .i64 0] MT)=w0 at *
 generalize w.heap.size=R at *
 go_wp2_with fail
 refine (uslashes_calls HS.out.rd c (by omega)).mono ?_
 rintro e w1 ⟨rfl,hb,hk,hr⟩
 have HR1:=HS.out.res.kept (hk _ _ MT _ (Or.inl rfl) HS.out.res)
 obtain ⟨d0,e0⟩:=HR1.cell 0 rfl
 obtain ⟨d1,e1⟩:=HR1.cell 1 rfl
 obtain ⟨d2,e2⟩:=HR1.cell 2 rfl
 have HP:=hid (fun a b c=>St.pass HS.out hb hk hr (a:=a) (b:=b) (c:=c))
 clear hb hk hr HR1
 go_wp2_with fail
 refine bodyPost_ret (by simp [results,Tryz.results68,go_sem,d0,d1,d2];try rfl) rfl ?_
 exact HP.out _ _ _
theorem ustep8_calls {E:Prop} {w:World} {B g:Nat} {x:RdP} {tv bpv upv bv uv pv:Value} (h:Rd E w B g x tv bpv upv bv uv pv) (c:Int) :
 Calls Tryz.prog 68 #[.pointer (some ⟨g,0,none⟩),.int .i64 8,.int .i64 c] w fun e w'=>MP B g (skipP x c) w e w':=by
 have HS:=hid (St.new h)
 clear h
 go_enter Tryz.func68,Tryz.ntmps68
 go_upto_region 1 with fail
 generalize w.alloc (.cells #[.int .i64 0,.int .i64 0,.int .i64 0] MT)=w0 at *
 generalize w.heap.size=R at *
 go_wp2_with fail
 refine (uskip_calls HS.out.rd c).mono ?_
 rintro e w1 ⟨rfl,hb,hk,hr⟩
 have HR1:=HS.out.res.kept (hk _ _ MT _ (Or.inl rfl) HS.out.res)
 obtain ⟨d0,e0⟩:=HR1.cell 0 rfl
 obtain ⟨d1,e1⟩:=HR1.cell 1 rfl
 obtain ⟨d2,e2⟩:=HR1.cell 2 rfl
 have HP:=hid (fun a b c=>St.pass HS.out hb hk hr (a:=a) (b:=b) (c:=c))
 clear hb hk hr HR1
 go_wp2_with fail
 refine bodyPost_ret (by simp [results,Tryz.results68,go_sem,d0,d1,d2];try rfl) rfl ?_
 exact HP.out _ _ _
theorem ustep9_calls {E:Prop} {w:World} {B g:Nat} {x:RdP} {tv bpv upv bv uv pv:Value} (h:Rd E w B g x tv bpv upv bv uv pv) (c:Int) (hb:x.m.buf.length≤x.m.p) (hp:x.m.p≤5000) (hl:x.us.length+x.ps.length+x.m.buf.length≤20000) :
 Calls Tryz.prog 68 #[.pointer (some ⟨g,0,none⟩),.int .i64 9,.int .i64 c] w fun e w'=>MP B g (authP x c) w e w':=by
 have HS:=hid (St.new h)
 clear h
 go_enter Tryz.func68,Tryz.ntmps68
 go_upto_region 1 with fail
 generalize w.alloc (.cells #[.int .i64 0,.int .i64 0,.int .i64 0] MT)=w0 at *
 generalize w.heap.size=R at *
 go_wp2_with fail
 refine (uauth_calls HS.out.rd c hb hp hl).mono ?_
 rintro e w1 ⟨rfl,hb,hk,hr⟩
 have HR1:=HS.out.res.kept (hk _ _ MT _ (Or.inl rfl) HS.out.res)
 obtain ⟨d0,e0⟩:=HR1.cell 0 rfl
 obtain ⟨d1,e1⟩:=HR1.cell 1 rfl
 obtain ⟨d2,e2⟩:=HR1.cell 2 rfl
 have HP:=hid (fun a b c=>St.pass HS.out hb hk hr (a:=a) (b:=b) (c:=c))
 clear hb hk hr HR1
 go_wp2_with fail
 refine bodyPost_ret (by simp [results,Tryz.results68,go_sem,d0,d1,d2];try rfl) rfl ?_
 exact HP.out _ _ _
theorem ustep10_calls {E:Prop} {w:World} {B g:Nat} {x:RdP} {tv bpv upv bv uv pv:Value} (h:Rd E w B g x tv bpv upv bv uv pv) (c:Int) (hb:x.m.buf.length≤x.m.p) (hp:x.m.p≤5000) :
 Calls Tryz.prog 68 #[.pointer (some ⟨g,0,none⟩),.int .i64 10,.int .i64 c] w fun e w'=>MP B g (hostP x c) w e w':=by
 have HS:=hid (St.new h)
 clear h
 go_enter Tryz.func68,Tryz.ntmps68
 go_upto_region 1 with fail
 generalize w.alloc (.cells #[.int .i64 0,.int .i64 0,.int .i64 0] MT)=w0 at *
 generalize w.heap.size=R at *
 go_wp2_with fail
 refine (uhost_calls HS.out.rd c (by omega)).mono ?_
 rintro e w1 ⟨rfl,hb,hk,hr⟩
 have HR1:=HS.out.res.kept (hk _ _ MT _ (Or.inl rfl) HS.out.res)
 obtain ⟨d0,e0⟩:=HR1.cell 0 rfl
 obtain ⟨d1,e1⟩:=HR1.cell 1 rfl
 obtain ⟨d2,e2⟩:=HR1.cell 2 rfl
 have HP:=hid (fun a b c=>St.pass HS.out hb hk hr (a:=a) (b:=b) (c:=c))
 clear hb hk hr HR1
 go_wp2_with fail
 refine bodyPost_ret (by simp [results,Tryz.results68,go_sem,d0,d1,d2];try rfl) rfl ?_
 exact HP.out _ _ _
theorem ustep11_calls {E:Prop} {w:World} {B g:Nat} {x:RdP} {tv bpv upv bv uv pv:Value} (h:Rd E w B g x tv bpv upv bv uv pv) (c:Int) (hb:x.m.buf.length≤x.m.p) (hp:x.m.p≤5000) (hd:∀d∈x.m.buf,48≤d∧d≤57) :
 Calls Tryz.prog 68 #[.pointer (some ⟨g,0,none⟩),.int .i64 11,.int .i64 c] w fun e w'=>MP B g (portP x c) w e w':=by
 have HS:=hid (St.new h)
 clear h
 go_enter Tryz.func68,Tryz.ntmps68
 go_upto_region 1 with fail
 generalize w.alloc (.cells #[.int .i64 0,.int .i64 0,.int .i64 0] MT)=w0 at *
 generalize w.heap.size=R at *
 go_wp2_with fail
 refine (uport_calls HS.out.rd c (by omega) hd).mono ?_
 rintro e w1 ⟨rfl,hb,hk,hr⟩
 have HR1:=HS.out.res.kept (hk _ _ MT _ (Or.inl rfl) HS.out.res)
 obtain ⟨d0,e0⟩:=HR1.cell 0 rfl
 obtain ⟨d1,e1⟩:=HR1.cell 1 rfl
 obtain ⟨d2,e2⟩:=HR1.cell 2 rfl
 have HP:=hid (fun a b c=>St.pass HS.out hb hk hr (a:=a) (b:=b) (c:=c))
 clear hb hk hr HR1
 go_wp2_with fail
 refine bodyPost_ret (by simp [results,Tryz.results68,go_sem,d0,d1,d2];try rfl) rfl ?_
 exact HP.out _ _ _
theorem ustep12_calls {E:Prop} {w:World} {B g:Nat} {x:RdP} {tv bpv upv bv uv pv:Value} (h:Rd E w B g x tv bpv upv bv uv pv) (c:Int) :
 Calls Tryz.prog 68 #[.pointer (some ⟨g,0,none⟩),.int .i64 12,.int .i64 c] w fun e w'=>MP B g (startP x c) w e w':=by
 have HS:=hid (St.new h)
 clear h
 go_enter Tryz.func68,Tryz.ntmps68
 go_upto_region 1 with fail
 generalize w.alloc (.cells #[.int .i64 0,.int .i64 0,.int .i64 0] MT)=w0 at *
 generalize w.heap.size=R at *
 go_wp2_with fail
 refine (ustart_calls HS.out.rd c).mono ?_
 rintro e w1 ⟨rfl,hb,hk,hr⟩
 have HR1:=HS.out.res.kept (hk _ _ MT _ (Or.inl rfl) HS.out.res)
 obtain ⟨d0,e0⟩:=HR1.cell 0 rfl
 obtain ⟨d1,e1⟩:=HR1.cell 1 rfl
 obtain ⟨d2,e2⟩:=HR1.cell 2 rfl
 have HP:=hid (fun a b c=>St.pass HS.out hb hk hr (a:=a) (b:=b) (c:=c))
 clear hb hk hr HR1
 go_wp2_with fail
 refine bodyPost_ret (by simp [results,Tryz.results68,go_sem,d0,d1,d2];try rfl) rfl ?_
 exact HP.out _ _ _
theorem ustep13_calls {E:Prop} {w:World} {B g:Nat} {x:RdP} {tv bpv upv bv uv pv:Value} (h:Rd E w B g x tv bpv upv bv uv pv) (c:Int) (hb:x.m.buf.length≤x.m.p) (hp:x.m.p≤5000) (hq:x.m.u.path.length≤100000) :
 Calls Tryz.prog 68 #[.pointer (some ⟨g,0,none⟩),.int .i64 13,.int .i64 c] w fun e w'=>MP B g (pathQ x c) w e w':=by
 have HS:=hid (St.new h)
 clear h
 go_enter Tryz.func68,Tryz.ntmps68
 go_upto_region 1 with fail
 generalize w.alloc (.cells #[.int .i64 0,.int .i64 0,.int .i64 0] MT)=w0 at *
 generalize w.heap.size=R at *
 go_wp2_with fail
 refine (upath_calls HS.out.rd c (by omega) hq).mono ?_
 rintro e w1 ⟨rfl,hb,hk,hr⟩
 have HR1:=HS.out.res.kept (hk _ _ MT _ (Or.inl rfl) HS.out.res)
 obtain ⟨d0,e0⟩:=HR1.cell 0 rfl
 obtain ⟨d1,e1⟩:=HR1.cell 1 rfl
 obtain ⟨d2,e2⟩:=HR1.cell 2 rfl
 have HP:=hid (fun a b c=>St.pass HS.out hb hk hr (a:=a) (b:=b) (c:=c))
 clear hb hk hr HR1
 go_wp2_with fail
 refine bodyPost_ret (by simp [results,Tryz.results68,go_sem,d0,d1,d2];try rfl) rfl ?_
 exact HP.out _ _ _
theorem ustep14_calls {E:Prop} {w:World} {B g:Nat} {x:RdP} {tv bpv upv bv uv pv:Value} (h:Rd E w B g x tv bpv upv bv uv pv) (c:Int) (hb:x.m.buf.length≤x.m.p) (hp:x.m.p≤5000) :
 Calls Tryz.prog 68 #[.pointer (some ⟨g,0,none⟩),.int .i64 14,.int .i64 c] w fun e w'=>MP B g (darkP x c) w e w':=by
 have HS:=hid (St.new h)
 clear h
 go_enter Tryz.func68,Tryz.ntmps68
 go_upto_region 1 with fail
 generalize w.alloc (.cells #[.int .i64 0,.int .i64 0,.int .i64 0] MT)=w0 at *
 generalize w.heap.size=R at *
 go_wp2_with fail
 refine (udark_calls HS.out.rd c (by omega)).mono ?_
 rintro e w1 ⟨rfl,hb,hk,hr⟩
 have HR1:=HS.out.res.kept (hk _ _ MT _ (Or.inl rfl) HS.out.res)
 obtain ⟨d0,e0⟩:=HR1.cell 0 rfl
 obtain ⟨d1,e1⟩:=HR1.cell 1 rfl
 obtain ⟨d2,e2⟩:=HR1.cell 2 rfl
 have HP:=hid (fun a b c=>St.pass HS.out hb hk hr (a:=a) (b:=b) (c:=c))
 clear hb hk hr HR1
 go_wp2_with fail
 refine bodyPost_ret (by simp [results,Tryz.results68,go_sem,d0,d1,d2];try rfl) rfl ?_
 exact HP.out _ _ _
theorem ustep15_calls {E:Prop} {w:World} {B g:Nat} {x:RdP} {tv bpv upv bv uv pv:Value} (h:Rd E w B g x tv bpv upv bv uv pv) (c:Int) (hb:x.m.buf.length≤x.m.p) (hp:x.m.p≤5000) :
 Calls Tryz.prog 68 #[.pointer (some ⟨g,0,none⟩),.int .i64 15,.int .i64 c] w fun e w'=>MP B g (queryP x c) w e w':=by
 have HS:=hid (St.new h)
 clear h
 go_enter Tryz.func68,Tryz.ntmps68
 go_upto_region 1 with fail
 generalize w.alloc (.cells #[.int .i64 0,.int .i64 0,.int .i64 0] MT)=w0 at *
 generalize w.heap.size=R at *
 go_wp2_with fail
 refine (uquery_calls HS.out.rd c (by omega)).mono ?_
 rintro e w1 ⟨rfl,hb,hk,hr⟩
 have HR1:=HS.out.res.kept (hk _ _ MT _ (Or.inl rfl) HS.out.res)
 obtain ⟨d0,e0⟩:=HR1.cell 0 rfl
 obtain ⟨d1,e1⟩:=HR1.cell 1 rfl
 obtain ⟨d2,e2⟩:=HR1.cell 2 rfl
 have HP:=hid (fun a b c=>St.pass HS.out hb hk hr (a:=a) (b:=b) (c:=c))
 clear hb hk hr HR1
 go_wp2_with fail
 refine bodyPost_ret (by simp [results,Tryz.results68,go_sem,d0,d1,d2];try rfl) rfl ?_
 exact HP.out _ _ _
theorem ustep16_calls {E:Prop} {w:World} {B g:Nat} {x:RdP} {tv bpv upv bv uv pv:Value} (h:Rd E w B g x tv bpv upv bv uv pv) (c:Int) (hb:x.m.buf.length≤x.m.p) (hp:x.m.p≤5000) :
 Calls Tryz.prog 68 #[.pointer (some ⟨g,0,none⟩),.int .i64 16,.int .i64 c] w fun e w'=>MP B g (fragP x c) w e w':=by
 have HS:=hid (St.new h)
 clear h
 go_enter Tryz.func68,Tryz.ntmps68
 go_upto_region 1 with fail
 generalize w.alloc (.cells #[.int .i64 0,.int .i64 0,.int .i64 0] MT)=w0 at *
 generalize w.heap.size=R at *
 go_wp2_with fail
 refine (ufragment_calls HS.out.rd c (by omega)).mono ?_
 rintro e w1 ⟨rfl,hb,hk,hr⟩
 have HR1:=HS.out.res.kept (hk _ _ MT _ (Or.inl rfl) HS.out.res)
 obtain ⟨d0,e0⟩:=HR1.cell 0 rfl
 obtain ⟨d1,e1⟩:=HR1.cell 1 rfl
 obtain ⟨d2,e2⟩:=HR1.cell 2 rfl
 have HP:=hid (fun a b c=>St.pass HS.out hb hk hr (a:=a) (b:=b) (c:=c))
 clear hb hk hr HR1
 go_wp2_with fail
 refine bodyPost_ret (by simp [results,Tryz.results68,go_sem,d0,d1,d2];try rfl) rfl ?_
 exact HP.out _ _ _
def RunPost (B g:Nat) (A:UrlN×Nat) (w:World) (e:Ending) (w':World):Prop:=Below B w w'∧Keep w w'∧∃n:Nat,e=.returned (.int .i64 (n:Int))∧((n≠0∧A=(url0,n))∨(n=0∧∃x',RS False w' B g x'∧(if 256 < x'.m.u.path.length then (url0,11) else (x'.m.u,0))=A))
def stepQ (x:RdP) (s:Nat) (c:Int):MvP:=if s=13 then pathQ x c else stepP x s c
theorem ustep_calls (s:Nat) {w:World} {B g:Nat} {x:RdP} {tv bpv upv bv uv pv:Value} (hs:s < 17) (h:Rd (s≤5) w B g x tv bpv upv bv uv pv) (c:Int) (hb:x.m.buf.length≤x.m.p) (hp:x.m.p≤5000) (hl:s≤9→x.us.length+x.ps.length+x.m.buf.length≤20000) (hq:x.m.u.path.length≤100000) (hqb:x.m.base.path.length≤100000) (hd:s=11→∀d∈x.m.buf,48≤d∧d≤57) :
 Calls Tryz.prog 68 #[.pointer (some ⟨g,0,none⟩),.int .i64 (s:Int),.int .i64 c] w fun e w'=>MP B g (stepQ x s c) w e w':=by
 match s,hs,h,hl,hd with
 | 0,_,h,hl,hd=>exact ustep0_calls h c (by decide) hb hp
 | 1,_,h,hl,hd=>exact ustep1_calls h c (by decide) hb hp
 | 2,_,h,hl,hd=>exact ustep2_calls h c (by decide)
 | 3,_,h,hl,hd=>exact ustep3_calls h c (by decide) hb hp
 | 4,_,h,hl,hd=>exact ustep4_calls h c
 | 5,_,h,hl,hd=>exact ustep5_calls h c (by decide) hqb
 | 6,_,h,hl,hd=>exact ustep6_calls h c
 | 7,_,h,hl,hd=>exact ustep7_calls h c hb hp
 | 8,_,h,hl,hd=>exact ustep8_calls h c
 | 9,_,h,hl,hd=>exact ustep9_calls h c hb hp (hl (by decide))
 | 10,_,h,hl,hd=>exact ustep10_calls h c hb hp
 | 11,_,h,hl,hd=>exact ustep11_calls h c hb hp (hd rfl)
 | 12,_,h,hl,hd=>exact ustep12_calls h c
 | 13,_,h,hl,hd=>exact ustep13_calls h c hb hp hq
 | 14,_,h,hl,hd=>exact ustep14_calls h c hb hp
 | 15,_,h,hl,hd=>exact ustep15_calls h c hb hp
 | 16,_,h,hl,hd=>exact ustep16_calls h c hb hp
 | n+17,hs,_,_,_=>exact absurd hs (by omega)
theorem leave_by (y:RdP) (c:Int):(leaveP y c).2.2.1≤2∧(leaveP y c).1.m.p=y.m.p:=by
 unfold leaveP
 split
 ·exact ⟨Nat.le_of_ble_eq_true rfl,rfl⟩
 split<;>exact ⟨Nat.le_of_ble_eq_true rfl,rfl⟩
theorem leave_by2 (y:RdP) (c:Int) {n:Nat} (h:y.m.p≤n):(leaveP y c).2.2.1≤2∧(leaveP y c).1.m.p≤n:=⟨(leave_by y c).1,by rw [(leave_by y c).2];exact h⟩
theorem step_by (x:RdP) (s:Nat) (c:Int):(stepP x s c).2.2.1≤2∧(stepP x s c).1.m.p≤x.m.p:=by
 have hq:=(piece_len x.m c).2.2
 unfold stepP
 split
 all_goals first
  | (unfold beginP;split<;>exact ⟨Nat.le_of_ble_eq_true rfl,Nat.le_refl _⟩)
  | (unfold schemeP behindP;repeat' split
     all_goals first | exact ⟨Nat.le_of_ble_eq_true rfl,Nat.le_refl _⟩ | exact ⟨Nat.le_of_ble_eq_true rfl,Nat.zero_le _⟩)
  | (unfold noSchemeP;repeat' split
     all_goals first | exact ⟨Nat.le_of_ble_eq_true rfl,Nat.le_refl _⟩ | exact leave_by2 _ c (Nat.le_refl _))
  | (unfold slashOrP;split<;>exact ⟨Nat.le_of_ble_eq_true rfl,Nat.le_refl _⟩)
  | (unfold slashP;split<;>exact ⟨Nat.le_of_ble_eq_true rfl,Nat.le_refl _⟩)
  | (unfold relativeP;repeat' split
     all_goals first | exact ⟨Nat.le_of_ble_eq_true rfl,Nat.le_refl _⟩ | exact leave_by2 _ c (Nat.le_refl _))
  | (unfold relSlashP;repeat' split
     all_goals exact ⟨Nat.le_of_ble_eq_true rfl,Nat.le_refl _⟩)
  | (unfold slashesP;split<;>exact ⟨Nat.le_of_ble_eq_true rfl,Nat.le_refl _⟩)
  | (unfold skipP;split<;>exact ⟨Nat.le_of_ble_eq_true rfl,Nat.le_refl _⟩)
  | (unfold authP;repeat' split
     all_goals first | exact ⟨Nat.le_of_ble_eq_true rfl,Nat.le_refl _⟩ | exact ⟨Nat.le_of_ble_eq_true rfl,Nat.sub_le _ _⟩)
  | (unfold hostP leaveHostP;repeat' split
     all_goals exact ⟨Nat.le_of_ble_eq_true rfl,Nat.le_refl _⟩)
  | (unfold portP;repeat' split
     all_goals exact ⟨Nat.le_of_ble_eq_true rfl,Nat.le_refl _⟩)
  | (unfold startP;repeat' split
     all_goals first | exact ⟨Nat.le_of_ble_eq_true rfl,Nat.le_refl _⟩ | exact leave_by2 _ c (Nat.le_refl _))
  | (unfold pathP;repeat' split
     all_goals first | exact ⟨Nat.le_of_ble_eq_true rfl,Nat.le_refl _⟩ | exact ⟨Nat.le_of_ble_eq_true rfl,Nat.le_of_eq hq⟩ | exact leave_by2 _ c (Nat.le_of_eq hq))
  | (unfold darkP;split
     all_goals first | exact ⟨Nat.le_of_ble_eq_true rfl,Nat.le_refl _⟩ | exact leave_by2 _ c (Nat.le_refl _))
  | (unfold queryP;split
     all_goals first | exact ⟨Nat.le_of_ble_eq_true rfl,Nat.le_refl _⟩ | exact leave_by2 _ c (Nat.le_refl _))
  | (unfold fragP;split<;>exact ⟨Nat.le_of_ble_eq_true rfl,Nat.le_refl _⟩)
theorem urun_calls {w:World} {B g:Nat} {x:RdP} {m:MaR} {inp:List Int} {b:UrlN} {A:UrlN×Nat} {tv bpv upv bv uv pv:Value} (h:Rd (0≤5) w B g x tv bpv upv bv uv pv) (hi:RunI x m 0 inp b A) (hp:∀c∈inp,0≤c) (hl:inp.length≤4000) (hb:b.path.length≤90000) (hPQ:∀(x:RdP) (c:Int),pathQ x c=pathP x c) :
 Calls Tryz.prog 51 #[.pointer (some ⟨g,0,none⟩)] w fun e w'=>RunPost B g A w e w':=by
 have HI:=hid hi
 have HS:=hid h
 clear h hi
 go_enter Tryz.func51,Tryz.ntmps51
 go_wp2_with fail
 go_loopw [3] (fun vs wr=>∃(s:Nat) (x:RdP) (m:MaR),vs=.int .i64 (s:Int)∧RunI x m s inp b A∧RS (s≤5) wr B g x∧Below B w wr∧Keep w wr) (fun vs wr=>(17-(intOf vs).toNat) * (inp.length+1)+(inp.length-(intOf ((wr.cell? ⟨g,1,none⟩).getD undef)).toNat))
 case atStart=>exact ⟨0,x,m,rfl,HI.out,⟨_,_,_,_,_,_,HS.out⟩,Below.refl _ _,Keep.refl _⟩
 case round =>
  obtain ⟨s,x,m,rfl,hi,⟨tv,bpv,upv,bv,uv,pv,hs⟩,hbl,hkp⟩:=hrel
  replace HI:=hid hi
  replace HS:=hid hs
  have HB:=hid hbl
  have HK:=hid hkp
  clear hi hs hbl hkp
  have s17:=HI.out.s17
  by_cases h17:s=17
  ·subst h17
   have HX:Hid ((if 256 < x.m.u.path.length then (url0,11) else (x.m.u,0))=A):=by
    have h1:x.m=m:=by simpa [Sim] using HI.out.sim
    have h2:=HI.out.ans_
    rw [ans_end,← h1] at h2
    exact h2
   go_wp2_with fail
   go_ret
   exact ⟨HB.out,HK.out,0,rfl,Or.inr ⟨rfl,x,⟨_,_,_,_,_,_,HS.out.mono (fun h=>h.elim)⟩,HX.out⟩⟩
  ·have s1:s < 17:=by omega
   have hpx:=HI.out.at_ s1
   rw [HI.out.inp_] at hpx
   obtain ⟨hb1,hb2,hb3⟩:=HI.out.len
   have hq1:=HI.out.pcs.1
   rw [HI.out.base] at hq1
   have HL:=hid (run_look HI.out s1 hp)
   have HG:=hid (usign_calls HS.out x.m.p)
   rw [HI.out.inp_] at HG
   have HSt:=hid (fun c=>ustep_calls s s1 HS.out c hb1 (by omega) (fun h9=>by have:=hb2 h9;omega) (by omega) (by rw [HI.out.base];omega) hb3)
   have c1:=HS.out.at 1 rfl
   have e17:((s:Int) != 17)=true:=by rw [bne_iff_ne];omega
   have hx:(x.m.p:Int)≤4000:=by omega
   have hx0:(0:Int)≤(x.m.p:Int):=by omega
   generalize signAt inp x.m.p=c at *
   have hsq:stepQ x s c=stepP x s c:=by unfold stepQ;split;(rename_i h;subst h;exact hPQ x c);rfl
   replace HSt:=hid (HSt.out c)
   rw [hsq] at HSt
   have HMu:=hid (show leftM x.m s=(17-s) * (inp.length+1)+(inp.length-x.m.p) by unfold leftM;rw [HI.out.inp_])
   have hby:=step_by x s c
   clear hsq HI hq1 hb1 hb2 hb3 hpx
   generalize stepP x s c=r at *
   obtain ⟨x2,to,by_,er⟩:=r
   dsimp only at *
   obtain ⟨hby,hp2⟩:=hby
   have y0:(by_:Int)≤2:=by omega
   have y1:(0:Int)≤(by_:Int):=by omega
   go_wp2_with fail
   refine HG.out.mono ?_
   rintro e w1 ⟨rfl,hw⟩
   subst hw
   clear HG
   go_wp2_with fail
   refine HSt.out.mono ?_
   rintro e w2 ⟨rfl,hb2,hk2,hr2⟩
   have HB2:=hid (HB.out.trans hb2)
   have HK2:=hid (HK.out.trans hk2)
   clear HK
   by_cases h0:er=0
   ·subst h0
    obtain ⟨tv2,bpv2,upv2,bv2,uv2,pv2,hs2⟩:=hr2 rfl
    have HS2:=hid hs2
    obtain ⟨m2,hi2,hm2⟩:=HL.out.2 rfl
    have HI2:=hid hi2
    have HM2:=hid hm2
    have hbs:B≤w2.heap.size:=HS2.out.bs
    have HB3:=hid (HB2.out.alloc hbs (.cells #[.int .i64 (to:Int),.int .i64 (by_:Int),.int .i64 0] MT))
    have HK3:=hid (HK2.out.trans (Keep.below ((Below.refl _ _).alloc (Nat.le_refl _) (.cells #[.int .i64 (to:Int),.int .i64 (by_:Int),.int .i64 0] MT))))
    have HS3:=hid (HS2.out.below ((Below.refl _ _).alloc (Nat.le_refl _) (.cells #[.int .i64 (to:Int),.int .i64 (by_:Int),.int .i64 0] MT)))
    have HM:Hid (Bc MT (w2.alloc (.cells #[.int .i64 (to:Int),.int .i64 (by_:Int),.int .i64 0] MT)) w2.heap.size [.int .i64 (to:Int),.int .i64 (by_:Int),.int .i64 0]):=heap_alloc_new w2 _
    clear hs2 hi2 hm2 hr2 hb2 hk2 HL HSt HB HB2 HS2 hbs HS HK2
    have HC0:=hid c1
    clear c1
    have z0:(x2.m.p:Int)≤4000:=by omega
    have z1:(0:Int)≤(x2.m.p:Int):=by omega
    obtain ⟨q,hq⟩:∃q,x2.m.p+by_=q:=⟨_,rfl⟩
    have z2:(x2.m.p:Int)+(by_:Int)=(q:Int):=by omega
    have z3:IntKind.wrap .i64 (q:Int)=(q:Int):=by rw [IntKind.wrap_i64];omega
    have hto:=HI2.out.s17
    go_upto_region 4 with fail
    generalize w2.alloc (.cells #[.int .i64 (to:Int),.int .i64 (by_:Int),.int .i64 0] MT)=w3 at *
    generalize w2.heap.size=M at *
    have m0:=(HM.out.cell 0 rfl).1
    have m1:=(HM.out.cell 1 rfl).1
    have m2:=(HM.out.cell 2 rfl).1
    have c1:=HS3.out.at 1 rfl
    have f1:=HS3.out.free 1 (by decide)
    have HS4:=hid ((HS3.out.put 1 (.int .i64 (q:Int)) (x':=behP (x2,to,by_,0)) (by rw [← hq];rfl)).below ((Below.refl _ _).drew))
    have HB4:=hid ((HB3.out.setCell (p:=⟨g,1,none⟩) HS3.out.bg (.int .i64 (q:Int))).drew)
    have HC4:=hid (HS4.out.at 1 rfl)
    have HK4:=hid ((HK3.out.trans (keepSet (i:=1) (v:=.int .i64 (q:Int)) HS3.out.c)).trans (Keep.below (Below.refl _ _).drew))
    clear HS3 HB3 HM HK3
    go_wp2_with fail
    go_region
    go_roundw
    case rel=>first | exact ⟨_,_,_,_,_,_,_,_,_,_,_,_,_,_,_,_,_,_,_,_,_,_,_,_,_,_,_,_,_,_,rfl,⟨to,behP (x2,to,by_,0),_,rfl,HI2.out,⟨_,_,_,_,_,_,HS4.out⟩,HB4.out,HK4.out⟩⟩ | exact ⟨_,_,_,_,_,_,_,_,_,_,_,_,_,_,_,_,_,_,_,_,_,_,_,_,_,_,_,_,_,_,⟨to,behP (x2,to,by_,0),_,rfl,HI2.out,⟨_,_,_,_,_,_,HS4.out⟩,HB4.out,HK4.out⟩,rfl⟩
    case measure =>
     have hc4:=HC4.out
     have hc0:=HC0.out
     have hL:leftM (behP (x2,to,by_,0)).m to=(17-to) * (inp.length+1)+(inp.length-(behP (x2,to,by_,0)).m.p):=by unfold leftM;rw [HI2.out.inp_]
     have key:(17-to) * (inp.length+1)+(inp.length-(behP (x2,to,by_,0)).m.p) < (17-s) * (inp.length+1)+(inp.length-x.m.p):=by
      by_cases ht:to=17
      ·have:=Nat.mul_le_mul_right (inp.length+1) (show 1≤17-s by omega)
       rw [ht,Nat.sub_self,Nat.zero_mul]
       omega
      ·have:=HM2.out ht
       rw [hL,HMu.out] at this
       exact this
     simp only [hc4,hc0]
     simpa [intOf] using key
   ·have h1:((er:Int) != 0)=true:=by rw [bne_iff_ne];omega
    have HX:=hid (HL.out.1 h0)
    have hbs:B≤w2.heap.size:=Nat.le_trans HS.out.bs hb2.size
    have HB3:=hid (HB2.out.alloc hbs (.cells #[.int .i64 (to:Int),.int .i64 (by_:Int),.int .i64 (er:Int)] MT))
    have HK3:=hid (HK2.out.trans (Keep.below ((Below.refl _ _).alloc (Nat.le_refl _) (.cells #[.int .i64 (to:Int),.int .i64 (by_:Int),.int .i64 (er:Int)] MT))))
    have hn0:=h0
    have HN0:=hid hn0
    clear hr2 hb2 hk2 HL HSt HB HB2 hbs HS h0 hn0 HK2
    go_wp2_with fail
    go_ret
    exact ⟨HB3.out,HK3.out,er,rfl,Or.inl ⟨HN0.out,HX.out⟩⟩
end Go.Proofs.YtigfgloenjoeoaaGreatDoor
