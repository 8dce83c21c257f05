import Derived.Test.YtigfgloenjoeoaaGreatDoorLcBR
import Derived.Deep.MidRow
import Derived.Test.YtigfgloenjoeoaaGreatDoorLcBQ
import Derived.Test.YtigfgloenjoeoaaGreatDoorLcAZ
set_option linter.unusedVariables false
set_option linter.unusedSimpArgs false
set_option maxRecDepth 20000
set_option maxHeartbeats 16000000
namespace Go.Proofs.YtigfgloenjoeoaaGreatDoor
open Go.RowKit
theorem info_url:(Tryz.prog.info? 29).map (·.size)=some 23:=by kernel_rfl
theorem rd_cut (x:RdP) (tv bpv upv bv uv pv:Value):rdC x tv bpv upv bv uv pv=[tv,.int .i64 (x.m.p:Int)]++(urlC x.m.base bpv++([.bool x.m.has]++(urlC x.m.u upv++[bv,uv,pv,.bool x.m.seen,.bool x.m.colon,.bool x.m.brack]))):=rfl
theorem Rd.base_range {E:Prop} {w:World} {B g:Nat} {x:RdP} {tv bpv upv bv uv pv:Value} (h:Rd E w B g x tv bpv upv bv uv pv):w.rangeAt g 2 (urlC x.m.base bpv):=fun j v hv=>by
 have hj:j < (urlC x.m.base bpv).length:=(List.getElem?_eq_some_iff.1 hv).1
 refine h.at (2+j) ?_
 rw [rd_cut,List.getElem?_append_right (by simp),show 2+j-([tv,Value.int .i64 (x.m.p:Int)]:List Value).length=j by simp,List.getElem?_append_left hj]
 exact hv
theorem Rd.u_range {E:Prop} {w:World} {B g:Nat} {x:RdP} {tv bpv upv bv uv pv:Value} (h:Rd E w B g x tv bpv upv bv uv pv):w.rangeAt g 26 (urlC x.m.u upv):=fun j v hv=>by
 have hj:j < (urlC x.m.u upv).length:=(List.getElem?_eq_some_iff.1 hv).1
 have h23:(urlC x.m.base bpv).length=23:=rfl
 refine h.at (26+j) ?_
 rw [rd_cut,List.getElem?_append_right (by simp;omega),show 26+j-([tv,Value.int .i64 (x.m.p:Int)]:List Value).length=24+j by simp;omega,List.getElem?_append_right (by omega),h23,show 24+j-23=j+1 by omega,List.getElem?_append_right (by simp),show j+1-([Value.bool x.m.has]:List Value).length=j by simp,List.getElem?_append_left hj]
 exact hv
theorem Rd.u_there {E:Prop} {w:World} {B g:Nat} {x:RdP} {tv bpv upv bv uv pv:Value} (h:Rd E w B g x tv bpv upv bv uv pv):w.there g 26 23:=fun j hj=>⟨h.u_range.isSome j hj,h.free (26+j) (by omega)⟩
theorem setCells_sets (g:Nat):∀(vs:List Value) (o:Nat) (w:World),w.setCells g o vs=sets g ((vs.zipIdx o).map fun p=>(p.2,p.1)) w
 | [],_,_=>rfl
 | v::r,o,w=>setCells_sets g r (o+1) _
theorem foldl_zip:∀(vs:List Value) (o:Nat) (xs:List Value),o+vs.length≤xs.length→((vs.zipIdx o).map fun p=>(p.2,p.1)).foldl (fun xs p=>xs.set p.1 p.2) xs=xs.take o++vs++xs.drop (o+vs.length)
 | [],o,xs,_=>by simp
 | v::r,o,xs,h=>by
   have ho:o < xs.length:=by simp at h;omega
   have hs:xs.set o v=xs.take o++v::xs.drop (o+1):=by rw [List.set_eq_take_append_cons_drop,if_pos ho]
   have ih:=foldl_zip r (o+1) (xs.set o v) (by rw [List.length_set];simp at h;omega)
   show ((r.zipIdx (o+1)).map fun p=>(p.2,p.1)).foldl (fun xs p=>xs.set p.1 p.2) (xs.set o v)=_
   rw [ih]
   have hl:(xs.take o).length=o:=by rw [List.length_take];omega
   have h1:(xs.set o v).take (o+1)=xs.take o++[v]:=by
    rw [hs,List.take_append,hl,show o+1-o=1 by omega,List.take_of_length_le (by omega)];rfl
   have h2:(xs.set o v).drop (o+1+r.length)=xs.drop (o+(r.length+1)):=by
    rw [hs,List.drop_append,hl,List.drop_of_length_le (by omega),show o+1+r.length-o=r.length+1 by omega,List.nil_append,List.drop_succ_cons,List.drop_drop]
    congr 1;omega
   rw [h1,h2]
   simp
theorem St.whole {E:Prop} {W w:World} {B g R:Nat} {x:RdP} {tv bpv upv bv uv pv:Value} (h:St E W w B g R x tv bpv upv bv uv pv) (hE:E):St False W (w.setCells g 26 (urlC x.m.base bpv)) B g R (x.on (fun m=>{ m with u:=m.base })) tv bpv bpv bv uv pv:=by
 have r:=h.rd.r
 rw [setCells_sets]
 exact h.puts (x':=x.on (fun m=>{ m with u:=m.base })) ⟨r.t,r.b,r.u,r.p,(r.e hE).2,r.tb,r.tu,r.tp,r.bu,r.bp,r.up,fun e=>e.elim⟩ _ (by rw [foldl_zip _ _ _ (by show 26+23≤55;decide)];rfl)
theorem port_snoc (l:List Int) (c:Int):portNumP (l++[c])=min (portNumP l * 10+c-48) 65536:=by unfold portNumP;rw [List.foldl_append];rfl
theorem port_bounds:∀(n:Nat) (l:List Int),l.length=n→(∀d∈l,48≤d∧d≤57)→0≤portNumP l∧portNumP l≤65536
 | 0,l,h,_=>by rw [List.eq_nil_of_length_eq_zero h];decide
 | n+1,l,h,hd=>by
   rcases List.eq_nil_or_concat l with e | ⟨l',c,e⟩
   ·rw [e] at h;simp at h
   ·rw [List.concat_eq_append] at e
    subst e
    rw [List.length_append] at h
    have:=port_bounds n l' (by simpa using h) (fun d hm=>hd d (by simp [hm]))
    have:=hd c (by simp)
    rw [port_snoc];omega
theorem uportNum_calls (v:Value) (l:List Int) (w:World) (hv:IRow w v l) (hl:l.length≤100000) (hd:∀d∈l,48≤d∧d≤57) :
 Calls Tryz.prog 144 #[v] w fun e w'=>e=.returned (.int .i64 (portNumP l))∧w'=w:=by
 have HV:=hid hv
 obtain ⟨a,cap,rfl,h1,h2,-⟩:=hv
 unfold maxLen at h2
 have HD:=hid hd
 have HL:=hid hl
 clear hd
 go_enter Tryz.func144,Tryz.ntmps144
 go_wp2_with fail
 go_loop [3,8] (fun vn vi=>∃k:Nat,k≤l.length∧vi=.int .i64 (k:Int)∧vn=.int .i64 (portNumP (l.take k))) (fun _ vi=>l.length-(intOf vi).toNat)
 case atStart=>exact ⟨0,Nat.zero_le _,rfl,rfl⟩
 case round =>
  obtain ⟨k,hk,rfl,rfl⟩:=hrel
  have HK:=hid hk
  have k0:(0:Int)≤(k:Int):=by omega
  by_cases hlt:k < l.length
  ·obtain ⟨b,off,rfl,hbl,hck⟩:=row_at HV.out hlt
   have hb:=port_bounds _ (l.take k) rfl (fun d hd=>HD.out d (List.mem_of_mem_take hd))
   have hcb:=HD.out _ (List.getElem_mem hlt)
   have HT:Hid (portNumP (l.take (k+1))=min (portNumP (l.take k) * 10+l[k]-48) 65536):=by show _=_;rw [List.take_succ_eq_append_getElem hlt,port_snoc]
   have HLT:=hid hlt
   have k1:(k:Int) < (l.length:Int):=by omega
   generalize l[k]=c at *
   generalize portNumP (l.take k)=N at *
   obtain ⟨b1,b2⟩:=hb
   obtain ⟨b3,b4⟩:=hcb
   clear hlt hk
   have m2:IntKind.wrap .i64 (N * 10)=N * 10:=by rw [IntKind.wrap_i64];omega
   have m3:IntKind.wrap .i64 (N * 10+c)=N * 10+c:=by rw [IntKind.wrap_i64];omega
   have m4:IntKind.wrap .i64 (N * 10+c-48)=N * 10+c-48:=by rw [IntKind.wrap_i64];omega
   go_wp2_with fail
   all_goals
    go_round
    case rel=>exact ⟨k+1,HLT.out,by go_num,by rw [HT.out]⟩
    case measure=>have:=HLT.out;simp [intOf];omega
  ·have k1:¬(k:Int) < (l.length:Int):=by omega
   have e:l.take k=l:=List.take_of_length_le (by omega)
   rw [e]
   have HX:=hid (Eq.refl (portNumP l))
   clear e
   go_wp2_with fail
   go_ret
   exact ⟨by first | rfl | simp,rfl⟩
theorem uenc_calls (set:Int) (v:Value) (l:List Int) (w:World) (T:TabPc w) (hv:IRow w v l) (hl:l.length≤20000) :
 Calls Tryz.prog 142 #[.int .i64 set,v] w fun e w'=>e=.returned (.string (strOf (encU set l)))∧Below w.heap.size w w':=by
 have HT:=hid T
 have HC:=hid (text_calls v l w hv (by omega))
 have hlen:=text_len l
 have HS1:Hid ((strOf (textL l)).size≤100000):=by show (textL l).length≤100000;omega
 have HS2:Hid ((strOf (textL l)).data.toList.length≤100000):=by show (textL l).length≤100000;omega
 have HPc:=hid (fun W v t h=>encode_callsPc set v (strOf (textL l)).data.toList W t h HS2.out)
 unfold encU
 rw [str_data] at HPc
 obtain ⟨a,cap,rfl,-⟩:=id hv
 clear T hv hl hlen
 go_enter Tryz.func142,Tryz.ntmps142
 go_wp2_with fail
 refine HC.out.mono ?_
 rintro e w1 ⟨rfl,hb1⟩
 have hcv:=Lib.run_convert_string_bytes (P:=Tryz.prog) w1 9 73 5 (strOf (textL l)) Tryz.underlying9 Tryz.underlying73 Tryz.underlying5
 have HRow:=hid (str_row w1 (strOf (textL l)) HS1.out)
 have HB2:=hid (below_trans hb1 (str_world w1 (strOf (textL l))))
 clear hb1
 generalize Lib.bytesWorld w1 5 (strOf (textL l))=wb at *
 generalize grownCap w1 (strOf (textL l)).size 0 5=cap2 at *
 generalize w1.heap.size=N1 at *
 go_wp2_with fail
 refine (HPc.out _ _ (HT.out.below HB2.out) HRow.out).mono ?_
 rintro e w2 ⟨rfl,hb2⟩
 have HB3:=hid (below_trans HB2.out hb2)
 clear hb2 hcv
 go_wp2_with fail
 go_ret
 exact ⟨rfl,HB3.out⟩
theorem MP.pre {w W1 w':World} {B g:Nat} {r:MvP} {e:Ending} (hb:Below w.heap.size w W1) (hB:B≤w.heap.size) (h:MP B g r W1 e w'):MP B g r w e w':=⟨h.1,(hb.mono hB).trans h.2.1,(Keep.below hb).trans h.2.2.1,h.2.2.2⟩
theorem uleaveHost_calls {E:Prop} {w:World} {B g:Nat} {x:RdP} {tv bpv upv bv uv pv:Value} (h:Rd E w B g x tv bpv upv bv uv pv) (to by_:Nat) (may:Bool) (hb:x.m.buf.length≤20000) (ht:5 < to) :
 Calls Tryz.prog 143 #[.pointer (some ⟨g,0,none⟩),mvV to by_ 0,.bool may] w fun e w'=>MP B g (leaveHostP x to by_ may) w e w':=by
 have hB:=h.bs
 have hbm:Below w.heap.size w (w.alloc (.cells #[.int .i64 (to:Int),.int .i64 (by_:Int),.int .i64 0] MT)):=(Below.refl _ _).alloc (Nat.le_refl _) _
 have HS:=hid (St.new (h.below hbm))
 rw [show (w.alloc (.cells #[.int .i64 (to:Int),.int .i64 (by_:Int),.int .i64 0] MT)).heap.size=w.heap.size+1 by simp] at HS
 have HM:Hid (Bc MT (w.alloc (.cells #[.int .i64 (to:Int),.int .i64 (by_:Int),.int .i64 0] MT)) w.heap.size [.int .i64 (to:Int),.int .i64 (by_:Int),.int .i64 0]):=heap_alloc_new w _
 have HPre:=hid (fun r e w'=>MP.pre (B:=B) (g:=g) (r:=r) (e:=e) (w':=w') hbm hB)
 unfold leaveHostP
 clear h hB hbm
 obtain ⟨qa,qc,hbv,-⟩:=HS.out.rd.r.b.row
 subst hbv
 by_cases hf:x.m.buf=[]∧may=false
 ·rw [if_pos hf]
  go_enter Tryz.func143,Tryz.ntmps143
  go_upto_region 1 with fail
  generalize w.alloc (.cells #[.int .i64 (to:Int),.int .i64 (by_:Int),.int .i64 0] MT)=W1 at *
  generalize W1.alloc (.cells #[.int .i64 0,.int .i64 0,.int .i64 0] MT)=w0 at *
  generalize w.heap.size=P at *
  have c49:=HS.out.rd.at 49 rfl
  rw [hf.1] at c49
  rw [hf.2]
  clear hf
  go_wp2_with fail
  refine (ufail_calls 6 _).mono ?_
  rintro e w1 ⟨rfl,hb⟩
  replace HS:=hid (HS.out.below hb)
  clear hb
  obtain ⟨d0,e0⟩:=HS.out.res.cell 0 rfl
  obtain ⟨d1,e1⟩:=HS.out.res.cell 1 rfl
  obtain ⟨d2,e2⟩:=HS.out.res.cell 2 rfl
  go_wp2_with fail
  refine bodyPost_ret (by simp [results,Tryz.results143,go_sem,d0,d1,d2];try rfl) rfl ?_
  exact HPre.out _ _ _ (HS.out.fails (by first | decide | assumption))
 ·rw [if_neg hf]
  obtain ⟨H,hH⟩:∃H,hostR (textL x.m.buf) (spM x.m)=H:=⟨_,rfl⟩
  rw [show (x.on fun m=>(hostM m).1)=x.on (fun m=>{ m with buf:=[],u:={ m.u with host:=H.1,hasHost:=true } }) by unfold hostM;simp only [RdP.on,hH],hH]
  have HTL:=text_len x.m.buf
  have HS1:Hid ((strOf (textL x.m.buf)).size≤100000):=by show (textL x.m.buf).length≤100000;omega
  clear HTL
  obtain ⟨sp,hsp⟩:∃sp,spM x.m=sp:=⟨_,rfl⟩
  rw [hsp] at hH
  have HK:(may=true∧∃z,((x.m.buf.length:Int)==0)=z)∨(may=false∧((x.m.buf.length:Int)==0)=false):=by cases may;(exact Or.inr ⟨rfl,beq_eq_false_iff_ne.2 (fun h=>hf ⟨List.eq_nil_of_length_eq_zero (by omega),rfl⟩)⟩);exact Or.inl ⟨rfl,_,rfl⟩
  clear hf
  rcases HK with ⟨rfl,z,hz⟩ | ⟨rfl,hz⟩
  ·cases z
   ·skip
    go_enter Tryz.func143,Tryz.ntmps143
    go_upto_region 1 with fail
    generalize w.alloc (.cells #[.int .i64 (to:Int),.int .i64 (by_:Int),.int .i64 0] MT)=W1 at *
    generalize W1.alloc (.cells #[.int .i64 0,.int .i64 0,.int .i64 0] MT)=w0 at *
    generalize w.heap.size=P at *
    have c49:=HS.out.rd.at 49 rfl
    go_wp2_with fail
    refine (utake_calls HS.out).mono ?_
    rintro e w2 ⟨rfl,hT⟩
    replace HS:=hid hT.1
    have HRw:=hid hT.2.1.row
    clear hT c49
    go_wp2_with fail
    refine (text_calls _ _ _ HRw.out (by omega)).mono ?_
    rintro e w3 ⟨rfl,hb3⟩
    replace HS:=hid (HS.out.below hb3)
    clear hb3 HRw
    have HSp:=hid (uspecial_calls HS.out.rd)
    rw [show spM (x.on takeM).m=spM x.m from rfl,hsp] at HSp
    go_wp2_with fail
    refine HSp.out.mono ?_
    rintro e w4 ⟨rfl,hw⟩
    subst hw
    clear HSp
    have HC:=hparse_calls (strOf (textL x.m.buf)) sp _ HS1.out HS.out.rd.tab.now
    rw [str_data,hH] at HC
    replace HC:=hid HC
    go_wp2_with fail
    refine HC.out.mono ?_
    rintro e w5 ⟨p0,p1,p2,p3,p4,p5,p6,p7,hp,rfl,hb5⟩
    unfold hostV
    replace HS:=hid (HS.out.below hb5)
    clear hb5 HC
    obtain ⟨⟨r1,r2,r3,r4⟩,r5⟩:=H
    have hp:r4=[p0,p1,p2,p3,p4,p5,p6,p7]:=hp
    subst hp
    dsimp only at *
    clear hH hsp hz
    replace HS:=hid (HS.out.below ((Below.refl w5.heap.size w5).alloc (Nat.le_refl _) (.cells #[.int .i64 r1,.string (strOf r2),.int .u32 (r3:Int),.int .u16 (p0:Int),.int .u16 (p1:Int),.int .u16 (p2:Int),.int .u16 (p3:Int),.int .u16 (p4:Int),.int .u16 (p5:Int),.int .u16 (p6:Int),.int .u16 (p7:Int)] 26)))
    have HH:Hid (Bc 26 (w5.alloc (.cells #[.int .i64 r1,.string (strOf r2),.int .u32 (r3:Int),.int .u16 (p0:Int),.int .u16 (p1:Int),.int .u16 (p2:Int),.int .u16 (p3:Int),.int .u16 (p4:Int),.int .u16 (p5:Int),.int .u16 (p6:Int),.int .u16 (p7:Int)] 26)) w5.heap.size [.int .i64 r1,.string (strOf r2),.int .u32 (r3:Int),.int .u16 (p0:Int),.int .u16 (p1:Int),.int .u16 (p2:Int),.int .u16 (p3:Int),.int .u16 (p4:Int),.int .u16 (p5:Int),.int .u16 (p6:Int),.int .u16 (p7:Int)]):=heap_alloc_new w5 _
    by_cases h0:r5=0
    ·subst h0
     go_wp2_with fail
     generalize w5.alloc (.cells #[.int .i64 r1,.string (strOf r2),.int .u32 (r3:Int),.int .u16 (p0:Int),.int .u16 (p1:Int),.int .u16 (p2:Int),.int .u16 (p3:Int),.int .u16 (p4:Int),.int .u16 (p5:Int),.int .u16 (p6:Int),.int .u16 (p7:Int)] 26)=w6 at *
     generalize w5.heap.size=N5 at *
     have c29:=HS.out.rd.at 29 rfl
     have c30:=HS.out.rd.at 30 rfl
     have c31:=HS.out.rd.at 31 rfl
     have c32:=HS.out.rd.at 32 rfl
     have c33:=HS.out.rd.at 33 rfl
     have c34:=HS.out.rd.at 34 rfl
     have c35:=HS.out.rd.at 35 rfl
     have c36:=HS.out.rd.at 36 rfl
     have c37:=HS.out.rd.at 37 rfl
     have c38:=HS.out.rd.at 38 rfl
     have c39:=HS.out.rd.at 39 rfl
     have c40:=HS.out.rd.at 40 rfl
     have f29:=HS.out.rd.free 29 (by decide)
     have f30:=HS.out.rd.free 30 (by decide)
     have f31:=HS.out.rd.free 31 (by decide)
     have f32:=HS.out.rd.free 32 (by decide)
     have f33:=HS.out.rd.free 33 (by decide)
     have f34:=HS.out.rd.free 34 (by decide)
     have f35:=HS.out.rd.free 35 (by decide)
     have f36:=HS.out.rd.free 36 (by decide)
     have f37:=HS.out.rd.free 37 (by decide)
     have f38:=HS.out.rd.free 38 (by decide)
     have f39:=HS.out.rd.free 39 (by decide)
     have f40:=HS.out.rd.free 40 (by decide)
     have n0:=(HH.out.cell 0 rfl).1
     have n1:=(HH.out.cell 1 rfl).1
     have n2:=(HH.out.cell 2 rfl).1
     have n3:=(HH.out.cell 3 rfl).1
     have n4:=(HH.out.cell 4 rfl).1
     have n5:=(HH.out.cell 5 rfl).1
     have n6:=(HH.out.cell 6 rfl).1
     have n7:=(HH.out.cell 7 rfl).1
     have n8:=(HH.out.cell 8 rfl).1
     have n9:=(HH.out.cell 9 rfl).1
     have n10:=(HH.out.cell 10 rfl).1
     go_region
     have HS5:Hid (St E W1 (((((((((((((w6.setCell ⟨g,29,none⟩ (.bool true)).setCell ⟨g,30,none⟩ (.int .i64 r1)).setCell ⟨g,31,none⟩ (.string (strOf r2))).setCell ⟨g,32,none⟩ (.int .u32 (r3:Int))).setCell ⟨g,33,none⟩ (.int .u16 (p0:Int))).setCell ⟨g,34,none⟩ (.int .u16 (p1:Int))).setCell ⟨g,35,none⟩ (.int .u16 (p2:Int))).setCell ⟨g,36,none⟩ (.int .u16 (p3:Int))).setCell ⟨g,37,none⟩ (.int .u16 (p4:Int))).setCell ⟨g,38,none⟩ (.int .u16 (p5:Int))).setCell ⟨g,39,none⟩ (.int .u16 (p6:Int))).setCell ⟨g,40,none⟩ (.int .u16 (p7:Int))).drew) B g (P+1) (x.on (fun m=>{ m with buf:=[],u:={ m.u with host:=(r1,r2,r3,[p0,p1,p2,p3,p4,p5,p6,p7]),hasHost:=true } })) tv bpv upv nilV uv pv):=(HS.out.flat (x':=x.on (fun m=>{ m with buf:=[],u:={ m.u with host:=(r1,r2,r3,[p0,p1,p2,p3,p4,p5,p6,p7]),hasHost:=true } })) [(29,.bool true),(30,.int .i64 r1),(31,.string (strOf r2)),(32,.int .u32 (r3:Int)),(33,.int .u16 (p0:Int)),(34,.int .u16 (p1:Int)),(35,.int .u16 (p2:Int)),(36,.int .u16 (p3:Int)),(37,.int .u16 (p4:Int)),(38,.int .u16 (p5:Int)),(39,.int .u16 (p6:Int)),(40,.int .u16 (p7:Int))] rfl).below ((Below.refl _ _).drew)
     clear HS
     have HS:=HS5
     clear HS5 c29 f29 c30 f30 c31 f31 c32 f32 c33 f33 c34 f34 c35 f35 c36 f36 c37 f37 c38 f38 c39 f39 c40 f40
     clear HH n0 n1 n2 n3 n4 n5 n6 n7 n8 n9 n10
     generalize ((((((((((((w6.setCell ⟨g,29,none⟩ (.bool true)).setCell ⟨g,30,none⟩ (.int .i64 r1)).setCell ⟨g,31,none⟩ (.string (strOf r2))).setCell ⟨g,32,none⟩ (.int .u32 (r3:Int))).setCell ⟨g,33,none⟩ (.int .u16 (p0:Int))).setCell ⟨g,34,none⟩ (.int .u16 (p1:Int))).setCell ⟨g,35,none⟩ (.int .u16 (p2:Int))).setCell ⟨g,36,none⟩ (.int .u16 (p3:Int))).setCell ⟨g,37,none⟩ (.int .u16 (p4:Int))).setCell ⟨g,38,none⟩ (.int .u16 (p5:Int))).setCell ⟨g,39,none⟩ (.int .u16 (p6:Int))).setCell ⟨g,40,none⟩ (.int .u16 (p7:Int))).drew=w7 at *
     have HM2:=HM.out.kept (HS.out.keep _ _ MT _ (Or.inl rfl) HM.out)
     have m0:=(HM2.cell 0 rfl).1
     have m1:=(HM2.cell 1 rfl).1
     have m2:=(HM2.cell 2 rfl).1
     clear HM2
     obtain ⟨d0,e0⟩:=HS.out.res.cell 0 rfl
     obtain ⟨d1,e1⟩:=HS.out.res.cell 1 rfl
     obtain ⟨d2,e2⟩:=HS.out.res.cell 2 rfl
     go_wp2_with fail
     refine bodyPost_ret (by simp [results,Tryz.results143,go_sem,d0,d1,d2];try rfl) rfl ?_
     skip
     exact HPre.out _ _ _ (HS.out.told (fun h=>absurd h (by omega)))
    ·have h1:((r5:Int) != 0)=true:=by rw [bne_iff_ne];omega
     go_wp2_with fail
     refine (ufail_calls r5 _).mono ?_
     rintro e w1 ⟨rfl,hb⟩
     replace HS:=hid (HS.out.below hb)
     clear hb
     obtain ⟨d0,e0⟩:=HS.out.res.cell 0 rfl
     obtain ⟨d1,e1⟩:=HS.out.res.cell 1 rfl
     obtain ⟨d2,e2⟩:=HS.out.res.cell 2 rfl
     go_wp2_with fail
     refine bodyPost_ret (by simp [results,Tryz.results143,go_sem,d0,d1,d2];try rfl) rfl ?_
     exact HPre.out _ _ _ (HS.out.fails (by first | decide | assumption))
   ·skip
    go_enter Tryz.func143,Tryz.ntmps143
    go_upto_region 1 with fail
    generalize w.alloc (.cells #[.int .i64 (to:Int),.int .i64 (by_:Int),.int .i64 0] MT)=W1 at *
    generalize W1.alloc (.cells #[.int .i64 0,.int .i64 0,.int .i64 0] MT)=w0 at *
    generalize w.heap.size=P at *
    have c49:=HS.out.rd.at 49 rfl
    go_wp2_with fail
    refine (utake_calls HS.out).mono ?_
    rintro e w2 ⟨rfl,hT⟩
    replace HS:=hid hT.1
    have HRw:=hid hT.2.1.row
    clear hT c49
    go_wp2_with fail
    refine (text_calls _ _ _ HRw.out (by omega)).mono ?_
    rintro e w3 ⟨rfl,hb3⟩
    replace HS:=hid (HS.out.below hb3)
    clear hb3 HRw
    have HSp:=hid (uspecial_calls HS.out.rd)
    rw [show spM (x.on takeM).m=spM x.m from rfl,hsp] at HSp
    go_wp2_with fail
    refine HSp.out.mono ?_
    rintro e w4 ⟨rfl,hw⟩
    subst hw
    clear HSp
    have HC:=hparse_calls (strOf (textL x.m.buf)) sp _ HS1.out HS.out.rd.tab.now
    rw [str_data,hH] at HC
    replace HC:=hid HC
    go_wp2_with fail
    refine HC.out.mono ?_
    rintro e w5 ⟨p0,p1,p2,p3,p4,p5,p6,p7,hp,rfl,hb5⟩
    unfold hostV
    replace HS:=hid (HS.out.below hb5)
    clear hb5 HC
    obtain ⟨⟨r1,r2,r3,r4⟩,r5⟩:=H
    have hp:r4=[p0,p1,p2,p3,p4,p5,p6,p7]:=hp
    subst hp
    dsimp only at *
    clear hH hsp hz
    replace HS:=hid (HS.out.below ((Below.refl w5.heap.size w5).alloc (Nat.le_refl _) (.cells #[.int .i64 r1,.string (strOf r2),.int .u32 (r3:Int),.int .u16 (p0:Int),.int .u16 (p1:Int),.int .u16 (p2:Int),.int .u16 (p3:Int),.int .u16 (p4:Int),.int .u16 (p5:Int),.int .u16 (p6:Int),.int .u16 (p7:Int)] 26)))
    have HH:Hid (Bc 26 (w5.alloc (.cells #[.int .i64 r1,.string (strOf r2),.int .u32 (r3:Int),.int .u16 (p0:Int),.int .u16 (p1:Int),.int .u16 (p2:Int),.int .u16 (p3:Int),.int .u16 (p4:Int),.int .u16 (p5:Int),.int .u16 (p6:Int),.int .u16 (p7:Int)] 26)) w5.heap.size [.int .i64 r1,.string (strOf r2),.int .u32 (r3:Int),.int .u16 (p0:Int),.int .u16 (p1:Int),.int .u16 (p2:Int),.int .u16 (p3:Int),.int .u16 (p4:Int),.int .u16 (p5:Int),.int .u16 (p6:Int),.int .u16 (p7:Int)]):=heap_alloc_new w5 _
    by_cases h0:r5=0
    ·subst h0
     go_wp2_with fail
     generalize w5.alloc (.cells #[.int .i64 r1,.string (strOf r2),.int .u32 (r3:Int),.int .u16 (p0:Int),.int .u16 (p1:Int),.int .u16 (p2:Int),.int .u16 (p3:Int),.int .u16 (p4:Int),.int .u16 (p5:Int),.int .u16 (p6:Int),.int .u16 (p7:Int)] 26)=w6 at *
     generalize w5.heap.size=N5 at *
     have c29:=HS.out.rd.at 29 rfl
     have c30:=HS.out.rd.at 30 rfl
     have c31:=HS.out.rd.at 31 rfl
     have c32:=HS.out.rd.at 32 rfl
     have c33:=HS.out.rd.at 33 rfl
     have c34:=HS.out.rd.at 34 rfl
     have c35:=HS.out.rd.at 35 rfl
     have c36:=HS.out.rd.at 36 rfl
     have c37:=HS.out.rd.at 37 rfl
     have c38:=HS.out.rd.at 38 rfl
     have c39:=HS.out.rd.at 39 rfl
     have c40:=HS.out.rd.at 40 rfl
     have f29:=HS.out.rd.free 29 (by decide)
     have f30:=HS.out.rd.free 30 (by decide)
     have f31:=HS.out.rd.free 31 (by decide)
     have f32:=HS.out.rd.free 32 (by decide)
     have f33:=HS.out.rd.free 33 (by decide)
     have f34:=HS.out.rd.free 34 (by decide)
     have f35:=HS.out.rd.free 35 (by decide)
     have f36:=HS.out.rd.free 36 (by decide)
     have f37:=HS.out.rd.free 37 (by decide)
     have f38:=HS.out.rd.free 38 (by decide)
     have f39:=HS.out.rd.free 39 (by decide)
     have f40:=HS.out.rd.free 40 (by decide)
     have n0:=(HH.out.cell 0 rfl).1
     have n1:=(HH.out.cell 1 rfl).1
     have n2:=(HH.out.cell 2 rfl).1
     have n3:=(HH.out.cell 3 rfl).1
     have n4:=(HH.out.cell 4 rfl).1
     have n5:=(HH.out.cell 5 rfl).1
     have n6:=(HH.out.cell 6 rfl).1
     have n7:=(HH.out.cell 7 rfl).1
     have n8:=(HH.out.cell 8 rfl).1
     have n9:=(HH.out.cell 9 rfl).1
     have n10:=(HH.out.cell 10 rfl).1
     go_region
     have HS5:Hid (St E W1 (((((((((((((w6.setCell ⟨g,29,none⟩ (.bool true)).setCell ⟨g,30,none⟩ (.int .i64 r1)).setCell ⟨g,31,none⟩ (.string (strOf r2))).setCell ⟨g,32,none⟩ (.int .u32 (r3:Int))).setCell ⟨g,33,none⟩ (.int .u16 (p0:Int))).setCell ⟨g,34,none⟩ (.int .u16 (p1:Int))).setCell ⟨g,35,none⟩ (.int .u16 (p2:Int))).setCell ⟨g,36,none⟩ (.int .u16 (p3:Int))).setCell ⟨g,37,none⟩ (.int .u16 (p4:Int))).setCell ⟨g,38,none⟩ (.int .u16 (p5:Int))).setCell ⟨g,39,none⟩ (.int .u16 (p6:Int))).setCell ⟨g,40,none⟩ (.int .u16 (p7:Int))).drew) B g (P+1) (x.on (fun m=>{ m with buf:=[],u:={ m.u with host:=(r1,r2,r3,[p0,p1,p2,p3,p4,p5,p6,p7]),hasHost:=true } })) tv bpv upv nilV uv pv):=(HS.out.flat (x':=x.on (fun m=>{ m with buf:=[],u:={ m.u with host:=(r1,r2,r3,[p0,p1,p2,p3,p4,p5,p6,p7]),hasHost:=true } })) [(29,.bool true),(30,.int .i64 r1),(31,.string (strOf r2)),(32,.int .u32 (r3:Int)),(33,.int .u16 (p0:Int)),(34,.int .u16 (p1:Int)),(35,.int .u16 (p2:Int)),(36,.int .u16 (p3:Int)),(37,.int .u16 (p4:Int)),(38,.int .u16 (p5:Int)),(39,.int .u16 (p6:Int)),(40,.int .u16 (p7:Int))] rfl).below ((Below.refl _ _).drew)
     clear HS
     have HS:=HS5
     clear HS5 c29 f29 c30 f30 c31 f31 c32 f32 c33 f33 c34 f34 c35 f35 c36 f36 c37 f37 c38 f38 c39 f39 c40 f40
     clear HH n0 n1 n2 n3 n4 n5 n6 n7 n8 n9 n10
     generalize ((((((((((((w6.setCell ⟨g,29,none⟩ (.bool true)).setCell ⟨g,30,none⟩ (.int .i64 r1)).setCell ⟨g,31,none⟩ (.string (strOf r2))).setCell ⟨g,32,none⟩ (.int .u32 (r3:Int))).setCell ⟨g,33,none⟩ (.int .u16 (p0:Int))).setCell ⟨g,34,none⟩ (.int .u16 (p1:Int))).setCell ⟨g,35,none⟩ (.int .u16 (p2:Int))).setCell ⟨g,36,none⟩ (.int .u16 (p3:Int))).setCell ⟨g,37,none⟩ (.int .u16 (p4:Int))).setCell ⟨g,38,none⟩ (.int .u16 (p5:Int))).setCell ⟨g,39,none⟩ (.int .u16 (p6:Int))).setCell ⟨g,40,none⟩ (.int .u16 (p7:Int))).drew=w7 at *
     have HM2:=HM.out.kept (HS.out.keep _ _ MT _ (Or.inl rfl) HM.out)
     have m0:=(HM2.cell 0 rfl).1
     have m1:=(HM2.cell 1 rfl).1
     have m2:=(HM2.cell 2 rfl).1
     clear HM2
     obtain ⟨d0,e0⟩:=HS.out.res.cell 0 rfl
     obtain ⟨d1,e1⟩:=HS.out.res.cell 1 rfl
     obtain ⟨d2,e2⟩:=HS.out.res.cell 2 rfl
     go_wp2_with fail
     refine bodyPost_ret (by simp [results,Tryz.results143,go_sem,d0,d1,d2];try rfl) rfl ?_
     skip
     exact HPre.out _ _ _ (HS.out.told (fun h=>absurd h (by omega)))
    ·have h1:((r5:Int) != 0)=true:=by rw [bne_iff_ne];omega
     go_wp2_with fail
     refine (ufail_calls r5 _).mono ?_
     rintro e w1 ⟨rfl,hb⟩
     replace HS:=hid (HS.out.below hb)
     clear hb
     obtain ⟨d0,e0⟩:=HS.out.res.cell 0 rfl
     obtain ⟨d1,e1⟩:=HS.out.res.cell 1 rfl
     obtain ⟨d2,e2⟩:=HS.out.res.cell 2 rfl
     go_wp2_with fail
     refine bodyPost_ret (by simp [results,Tryz.results143,go_sem,d0,d1,d2];try rfl) rfl ?_
     exact HPre.out _ _ _ (HS.out.fails (by first | decide | assumption))
  ·skip
   go_enter Tryz.func143,Tryz.ntmps143
   go_upto_region 1 with fail
   generalize w.alloc (.cells #[.int .i64 (to:Int),.int .i64 (by_:Int),.int .i64 0] MT)=W1 at *
   generalize W1.alloc (.cells #[.int .i64 0,.int .i64 0,.int .i64 0] MT)=w0 at *
   generalize w.heap.size=P at *
   have c49:=HS.out.rd.at 49 rfl
   go_wp2_with fail
   refine (utake_calls HS.out).mono ?_
   rintro e w2 ⟨rfl,hT⟩
   replace HS:=hid hT.1
   have HRw:=hid hT.2.1.row
   clear hT c49
   go_wp2_with fail
   refine (text_calls _ _ _ HRw.out (by omega)).mono ?_
   rintro e w3 ⟨rfl,hb3⟩
   replace HS:=hid (HS.out.below hb3)
   clear hb3 HRw
   have HSp:=hid (uspecial_calls HS.out.rd)
   rw [show spM (x.on takeM).m=spM x.m from rfl,hsp] at HSp
   go_wp2_with fail
   refine HSp.out.mono ?_
   rintro e w4 ⟨rfl,hw⟩
   subst hw
   clear HSp
   have HC:=hparse_calls (strOf (textL x.m.buf)) sp _ HS1.out HS.out.rd.tab.now
   rw [str_data,hH] at HC
   replace HC:=hid HC
   go_wp2_with fail
   refine HC.out.mono ?_
   rintro e w5 ⟨p0,p1,p2,p3,p4,p5,p6,p7,hp,rfl,hb5⟩
   unfold hostV
   replace HS:=hid (HS.out.below hb5)
   clear hb5 HC
   obtain ⟨⟨r1,r2,r3,r4⟩,r5⟩:=H
   have hp:r4=[p0,p1,p2,p3,p4,p5,p6,p7]:=hp
   subst hp
   dsimp only at *
   clear hH hsp hz
   replace HS:=hid (HS.out.below ((Below.refl w5.heap.size w5).alloc (Nat.le_refl _) (.cells #[.int .i64 r1,.string (strOf r2),.int .u32 (r3:Int),.int .u16 (p0:Int),.int .u16 (p1:Int),.int .u16 (p2:Int),.int .u16 (p3:Int),.int .u16 (p4:Int),.int .u16 (p5:Int),.int .u16 (p6:Int),.int .u16 (p7:Int)] 26)))
   have HH:Hid (Bc 26 (w5.alloc (.cells #[.int .i64 r1,.string (strOf r2),.int .u32 (r3:Int),.int .u16 (p0:Int),.int .u16 (p1:Int),.int .u16 (p2:Int),.int .u16 (p3:Int),.int .u16 (p4:Int),.int .u16 (p5:Int),.int .u16 (p6:Int),.int .u16 (p7:Int)] 26)) w5.heap.size [.int .i64 r1,.string (strOf r2),.int .u32 (r3:Int),.int .u16 (p0:Int),.int .u16 (p1:Int),.int .u16 (p2:Int),.int .u16 (p3:Int),.int .u16 (p4:Int),.int .u16 (p5:Int),.int .u16 (p6:Int),.int .u16 (p7:Int)]):=heap_alloc_new w5 _
   by_cases h0:r5=0
   ·subst h0
    go_wp2_with fail
    generalize w5.alloc (.cells #[.int .i64 r1,.string (strOf r2),.int .u32 (r3:Int),.int .u16 (p0:Int),.int .u16 (p1:Int),.int .u16 (p2:Int),.int .u16 (p3:Int),.int .u16 (p4:Int),.int .u16 (p5:Int),.int .u16 (p6:Int),.int .u16 (p7:Int)] 26)=w6 at *
    generalize w5.heap.size=N5 at *
    have c29:=HS.out.rd.at 29 rfl
    have c30:=HS.out.rd.at 30 rfl
    have c31:=HS.out.rd.at 31 rfl
    have c32:=HS.out.rd.at 32 rfl
    have c33:=HS.out.rd.at 33 rfl
    have c34:=HS.out.rd.at 34 rfl
    have c35:=HS.out.rd.at 35 rfl
    have c36:=HS.out.rd.at 36 rfl
    have c37:=HS.out.rd.at 37 rfl
    have c38:=HS.out.rd.at 38 rfl
    have c39:=HS.out.rd.at 39 rfl
    have c40:=HS.out.rd.at 40 rfl
    have f29:=HS.out.rd.free 29 (by decide)
    have f30:=HS.out.rd.free 30 (by decide)
    have f31:=HS.out.rd.free 31 (by decide)
    have f32:=HS.out.rd.free 32 (by decide)
    have f33:=HS.out.rd.free 33 (by decide)
    have f34:=HS.out.rd.free 34 (by decide)
    have f35:=HS.out.rd.free 35 (by decide)
    have f36:=HS.out.rd.free 36 (by decide)
    have f37:=HS.out.rd.free 37 (by decide)
    have f38:=HS.out.rd.free 38 (by decide)
    have f39:=HS.out.rd.free 39 (by decide)
    have f40:=HS.out.rd.free 40 (by decide)
    have n0:=(HH.out.cell 0 rfl).1
    have n1:=(HH.out.cell 1 rfl).1
    have n2:=(HH.out.cell 2 rfl).1
    have n3:=(HH.out.cell 3 rfl).1
    have n4:=(HH.out.cell 4 rfl).1
    have n5:=(HH.out.cell 5 rfl).1
    have n6:=(HH.out.cell 6 rfl).1
    have n7:=(HH.out.cell 7 rfl).1
    have n8:=(HH.out.cell 8 rfl).1
    have n9:=(HH.out.cell 9 rfl).1
    have n10:=(HH.out.cell 10 rfl).1
    go_region
    have HS5:Hid (St E W1 (((((((((((((w6.setCell ⟨g,29,none⟩ (.bool true)).setCell ⟨g,30,none⟩ (.int .i64 r1)).setCell ⟨g,31,none⟩ (.string (strOf r2))).setCell ⟨g,32,none⟩ (.int .u32 (r3:Int))).setCell ⟨g,33,none⟩ (.int .u16 (p0:Int))).setCell ⟨g,34,none⟩ (.int .u16 (p1:Int))).setCell ⟨g,35,none⟩ (.int .u16 (p2:Int))).setCell ⟨g,36,none⟩ (.int .u16 (p3:Int))).setCell ⟨g,37,none⟩ (.int .u16 (p4:Int))).setCell ⟨g,38,none⟩ (.int .u16 (p5:Int))).setCell ⟨g,39,none⟩ (.int .u16 (p6:Int))).setCell ⟨g,40,none⟩ (.int .u16 (p7:Int))).drew) B g (P+1) (x.on (fun m=>{ m with buf:=[],u:={ m.u with host:=(r1,r2,r3,[p0,p1,p2,p3,p4,p5,p6,p7]),hasHost:=true } })) tv bpv upv nilV uv pv):=(HS.out.flat (x':=x.on (fun m=>{ m with buf:=[],u:={ m.u with host:=(r1,r2,r3,[p0,p1,p2,p3,p4,p5,p6,p7]),hasHost:=true } })) [(29,.bool true),(30,.int .i64 r1),(31,.string (strOf r2)),(32,.int .u32 (r3:Int)),(33,.int .u16 (p0:Int)),(34,.int .u16 (p1:Int)),(35,.int .u16 (p2:Int)),(36,.int .u16 (p3:Int)),(37,.int .u16 (p4:Int)),(38,.int .u16 (p5:Int)),(39,.int .u16 (p6:Int)),(40,.int .u16 (p7:Int))] rfl).below ((Below.refl _ _).drew)
    clear HS
    have HS:=HS5
    clear HS5 c29 f29 c30 f30 c31 f31 c32 f32 c33 f33 c34 f34 c35 f35 c36 f36 c37 f37 c38 f38 c39 f39 c40 f40
    clear HH n0 n1 n2 n3 n4 n5 n6 n7 n8 n9 n10
    generalize ((((((((((((w6.setCell ⟨g,29,none⟩ (.bool true)).setCell ⟨g,30,none⟩ (.int .i64 r1)).setCell ⟨g,31,none⟩ (.string (strOf r2))).setCell ⟨g,32,none⟩ (.int .u32 (r3:Int))).setCell ⟨g,33,none⟩ (.int .u16 (p0:Int))).setCell ⟨g,34,none⟩ (.int .u16 (p1:Int))).setCell ⟨g,35,none⟩ (.int .u16 (p2:Int))).setCell ⟨g,36,none⟩ (.int .u16 (p3:Int))).setCell ⟨g,37,none⟩ (.int .u16 (p4:Int))).setCell ⟨g,38,none⟩ (.int .u16 (p5:Int))).setCell ⟨g,39,none⟩ (.int .u16 (p6:Int))).setCell ⟨g,40,none⟩ (.int .u16 (p7:Int))).drew=w7 at *
    have HM2:=HM.out.kept (HS.out.keep _ _ MT _ (Or.inl rfl) HM.out)
    have m0:=(HM2.cell 0 rfl).1
    have m1:=(HM2.cell 1 rfl).1
    have m2:=(HM2.cell 2 rfl).1
    clear HM2
    obtain ⟨d0,e0⟩:=HS.out.res.cell 0 rfl
    obtain ⟨d1,e1⟩:=HS.out.res.cell 1 rfl
    obtain ⟨d2,e2⟩:=HS.out.res.cell 2 rfl
    go_wp2_with fail
    refine bodyPost_ret (by simp [results,Tryz.results143,go_sem,d0,d1,d2];try rfl) rfl ?_
    skip
    exact HPre.out _ _ _ (HS.out.told (fun h=>absurd h (by omega)))
   ·have h1:((r5:Int) != 0)=true:=by rw [bne_iff_ne];omega
    go_wp2_with fail
    refine (ufail_calls r5 _).mono ?_
    rintro e w1 ⟨rfl,hb⟩
    replace HS:=hid (HS.out.below hb)
    clear hb
    obtain ⟨d0,e0⟩:=HS.out.res.cell 0 rfl
    obtain ⟨d1,e1⟩:=HS.out.res.cell 1 rfl
    obtain ⟨d2,e2⟩:=HS.out.res.cell 2 rfl
    go_wp2_with fail
    refine bodyPost_ret (by simp [results,Tryz.results143,go_sem,d0,d1,d2];try rfl) rfl ?_
    exact HPre.out _ _ _ (HS.out.fails (by first | decide | assumption))
theorem uhost_calls {E:Prop} {w:World} {B g:Nat} {x:RdP} {tv bpv upv bv uv pv:Value} (h:Rd E w B g x tv bpv upv bv uv pv) (c:Int) (hb:x.m.buf.length≤20000) :
 Calls Tryz.prog 98 #[.pointer (some ⟨g,0,none⟩),.int .i64 c] w fun e w'=>MP B g (hostP x c) w e w':=by
 have HS:=hid (St.new h)
 unfold hostP
 clear h
 obtain ⟨bk,hbk⟩:∃b,x.m.brack=b:=⟨_,rfl⟩
 rw [hbk]
 by_cases h1:c=58∧bk=false
 ·rw [if_pos h1]
  have e58:(c==58)=true:=by rw [h1.1];rfl
  rw [h1.2] at hbk
  clear h1
  go_enter Tryz.func98,Tryz.ntmps98
  go_upto_region 1 with fail
  generalize w.alloc (.cells #[.int .i64 0,.int .i64 0,.int .i64 0] MT)=w0 at *
  generalize w.heap.size=R at *
  have c54:=HS.out.rd.at 54 rfl
  rw [hbk] at c54
  go_wp2_with fail
  refine (uon_calls 11 _).mono ?_
  rintro e w1 ⟨rfl,hb2⟩
  replace HS:=hid (HS.out.below hb2)
  clear hb2 c54
  go_wp2_with fail
  refine (uleaveHost_calls HS.out.rd 11 1 false hb (by decide)).mono ?_
  rintro e w1 ⟨rfl,hb,hk,hr⟩
  have HR1:=HS.out.res.kept (hk _ _ MT _ (Or.inl rfl) HS.out.res)
  obtain ⟨d0,e0⟩:=HR1.cell 0 rfl
  obtain ⟨d1,e1⟩:=HR1.cell 1 rfl
  obtain ⟨d2,e2⟩:=HR1.cell 2 rfl
  have HP:=hid (fun a b c=>St.pass HS.out hb hk hr (a:=a) (b:=b) (c:=c))
  clear hb hk hr HR1
  go_wp2_with fail
  refine bodyPost_ret (by simp [results,Tryz.results98,go_sem,d0,d1,d2];try rfl) rfl ?_
  exact HP.out _ _ _
 ·rw [if_neg h1]
  have e58:(c==58)=false∨((c==58)=true∧bk=true):=by cases h:c==58;(exact Or.inl rfl);(cases hk:bk;(exact absurd ⟨eq_of_beq h,hk⟩ h1);exact Or.inr ⟨rfl,rfl⟩)
  clear h1
  cases hn:endsA x.m c
  ·rw [if_neg (by decide)]
   have hc3:(c==91)=true∨((c==91)=false∧((c==93)=true∨(c==93)=false)):=by cases c==91<;>cases c==93<;>simp
   rcases e58 with e58 | ⟨e58,rfl⟩
   ·rcases hc3 with h91 | ⟨h91,h93 | h93⟩
    ·simp only [if_pos (show c=91 from eq_of_beq h91)]
     go_enter Tryz.func98,Tryz.ntmps98
     go_upto_region 1 with fail
     generalize w.alloc (.cells #[.int .i64 0,.int .i64 0,.int .i64 0] MT)=w0 at *
     generalize w.heap.size=R at *
     have c54:=HS.out.rd.at 54 rfl
     have c54':=c54
     rw [hbk] at c54
     clear c54'
     have f54:=HS.out.rd.free 54 (by decide)
     have HEn:=hid (uendsA_calls HS.out.rd c)
     rw [hn] at HEn
     go_wp2_with fail
     refine HEn.out.mono ?_
     rintro e w1 ⟨rfl,hw⟩
     subst hw
     clear HEn
     replace HS:Hid (St E w (w1.setCell ⟨g,54,none⟩ (.bool true)) B g R (x.on (fun m=>{ m with brack:=true })) tv bpv upv bv uv pv):=HS.out.flat (x':=x.on (fun m=>{ m with brack:=true })) [(54,.bool true)] rfl
     have c49:=HS.out.rd.at 49 rfl
     have f49:=HS.out.rd.free 49 (by decide)
     have HN:=World.new_ne _ _ c49
     obtain ⟨v5,w5,hr5,ho5,hg5⟩:=push_int (xs:=x.m.buf) HS.out.rd.r.b c (by omega) HS.out.rd.bs
     obtain ⟨a5,q5,rfl,-⟩:=id ho5.row
     have HG5:=HS.out.gather hg5 ho5
     rw [show (x.m.buf++[c]).length=x.m.buf.length+1 by simp] at HG5 hr5
     have c5:=HG5.1
     have f5:=HG5.2.1
     rw [setSize] at hr5
     replace HS:=hid HG5.2.2
     clear HG5 hg5 ho5 HN
     go_wp2_with (at_builtin;refine wpList_append_run hr5 rfl _ _ rfl rfl rfl rfl ?_)
     clear hr5 c5 f5 c49 f49
     refine (uon_calls 10 _).mono ?_
     rintro e w1 ⟨rfl,hb⟩
     replace HS:=hid (HS.out.below hb)
     clear hb
     obtain ⟨d0,e0⟩:=HS.out.res.cell 0 rfl
     obtain ⟨d1,e1⟩:=HS.out.res.cell 1 rfl
     obtain ⟨d2,e2⟩:=HS.out.res.cell 2 rfl
     go_wp2_with fail
     refine bodyPost_ret (by simp [results,Tryz.results98,go_sem,d0,d1,d2];try rfl) rfl ?_
     exact HS.out.told (fun h=>absurd h (by decide))
    ·simp only [if_neg (show¬c=91 from beq_eq_false_iff_ne.1 h91),if_pos (show c=93 from eq_of_beq h93)]
     go_enter Tryz.func98,Tryz.ntmps98
     go_upto_region 1 with fail
     generalize w.alloc (.cells #[.int .i64 0,.int .i64 0,.int .i64 0] MT)=w0 at *
     generalize w.heap.size=R at *
     have c54:=HS.out.rd.at 54 rfl
     have c54':=c54
     rw [hbk] at c54
     clear c54'
     have f54:=HS.out.rd.free 54 (by decide)
     have HEn:=hid (uendsA_calls HS.out.rd c)
     rw [hn] at HEn
     go_wp2_with fail
     refine HEn.out.mono ?_
     rintro e w1 ⟨rfl,hw⟩
     subst hw
     clear HEn
     replace HS:Hid (St E w (w1.setCell ⟨g,54,none⟩ (.bool false)) B g R (x.on (fun m=>{ m with brack:=false })) tv bpv upv bv uv pv):=HS.out.flat (x':=x.on (fun m=>{ m with brack:=false })) [(54,.bool false)] rfl
     have c49:=HS.out.rd.at 49 rfl
     have f49:=HS.out.rd.free 49 (by decide)
     have HN:=World.new_ne _ _ c49
     obtain ⟨v5,w5,hr5,ho5,hg5⟩:=push_int (xs:=x.m.buf) HS.out.rd.r.b c (by omega) HS.out.rd.bs
     obtain ⟨a5,q5,rfl,-⟩:=id ho5.row
     have HG5:=HS.out.gather hg5 ho5
     rw [show (x.m.buf++[c]).length=x.m.buf.length+1 by simp] at HG5 hr5
     have c5:=HG5.1
     have f5:=HG5.2.1
     rw [setSize] at hr5
     replace HS:=hid HG5.2.2
     clear HG5 hg5 ho5 HN
     go_wp2_with (at_builtin;refine wpList_append_run hr5 rfl _ _ rfl rfl rfl rfl ?_)
     clear hr5 c5 f5 c49 f49
     refine (uon_calls 10 _).mono ?_
     rintro e w1 ⟨rfl,hb⟩
     replace HS:=hid (HS.out.below hb)
     clear hb
     obtain ⟨d0,e0⟩:=HS.out.res.cell 0 rfl
     obtain ⟨d1,e1⟩:=HS.out.res.cell 1 rfl
     obtain ⟨d2,e2⟩:=HS.out.res.cell 2 rfl
     go_wp2_with fail
     refine bodyPost_ret (by simp [results,Tryz.results98,go_sem,d0,d1,d2];try rfl) rfl ?_
     exact HS.out.told (fun h=>absurd h (by decide))
    ·simp only [if_neg (show¬c=91 from beq_eq_false_iff_ne.1 h91),if_neg (show¬c=93 from beq_eq_false_iff_ne.1 h93)]
     go_enter Tryz.func98,Tryz.ntmps98
     go_upto_region 1 with fail
     generalize w.alloc (.cells #[.int .i64 0,.int .i64 0,.int .i64 0] MT)=w0 at *
     generalize w.heap.size=R at *
     have c54:=HS.out.rd.at 54 rfl
     have c54':=c54
     rw [hbk] at c54
     clear c54'
     have f54:=HS.out.rd.free 54 (by decide)
     have HEn:=hid (uendsA_calls HS.out.rd c)
     rw [hn] at HEn
     go_wp2_with fail
     refine HEn.out.mono ?_
     rintro e w1 ⟨rfl,hw⟩
     subst hw
     clear HEn
     have c49:=HS.out.rd.at 49 rfl
     have f49:=HS.out.rd.free 49 (by decide)
     have HN:=World.new_ne _ _ c49
     obtain ⟨v5,w5,hr5,ho5,hg5⟩:=push_int (xs:=x.m.buf) HS.out.rd.r.b c (by omega) HS.out.rd.bs
     obtain ⟨a5,q5,rfl,-⟩:=id ho5.row
     have HG5:=HS.out.gather hg5 ho5
     rw [show (x.m.buf++[c]).length=x.m.buf.length+1 by simp] at HG5 hr5
     have c5:=HG5.1
     have f5:=HG5.2.1
     replace HS:=hid HG5.2.2
     clear HG5 hg5 ho5 HN
     go_wp2_with (at_builtin;refine wpList_append_run hr5 rfl _ _ rfl rfl rfl rfl ?_)
     clear hr5 c5 f5 c49 f49
     refine (uon_calls 10 _).mono ?_
     rintro e w1 ⟨rfl,hb⟩
     replace HS:=hid (HS.out.below hb)
     clear hb
     obtain ⟨d0,e0⟩:=HS.out.res.cell 0 rfl
     obtain ⟨d1,e1⟩:=HS.out.res.cell 1 rfl
     obtain ⟨d2,e2⟩:=HS.out.res.cell 2 rfl
     go_wp2_with fail
     refine bodyPost_ret (by simp [results,Tryz.results98,go_sem,d0,d1,d2];try rfl) rfl ?_
     exact HS.out.told (fun h=>absurd h (by decide))
   ·rcases hc3 with h91 | ⟨h91,h93 | h93⟩
    ·simp only [if_pos (show c=91 from eq_of_beq h91)]
     rw [eq_of_beq h91] at e58
     exact absurd e58 (by decide)
    ·simp only [if_neg (show¬c=91 from beq_eq_false_iff_ne.1 h91),if_pos (show c=93 from eq_of_beq h93)]
     rw [eq_of_beq h93] at e58
     exact absurd e58 (by decide)
    ·simp only [if_neg (show¬c=91 from beq_eq_false_iff_ne.1 h91),if_neg (show¬c=93 from beq_eq_false_iff_ne.1 h93)]
     go_enter Tryz.func98,Tryz.ntmps98
     go_upto_region 1 with fail
     generalize w.alloc (.cells #[.int .i64 0,.int .i64 0,.int .i64 0] MT)=w0 at *
     generalize w.heap.size=R at *
     have c54:=HS.out.rd.at 54 rfl
     have c54':=c54
     rw [hbk] at c54
     clear c54'
     have f54:=HS.out.rd.free 54 (by decide)
     have HEn:=hid (uendsA_calls HS.out.rd c)
     rw [hn] at HEn
     go_wp2_with fail
     refine HEn.out.mono ?_
     rintro e w1 ⟨rfl,hw⟩
     subst hw
     clear HEn
     have c49:=HS.out.rd.at 49 rfl
     have f49:=HS.out.rd.free 49 (by decide)
     have HN:=World.new_ne _ _ c49
     obtain ⟨v5,w5,hr5,ho5,hg5⟩:=push_int (xs:=x.m.buf) HS.out.rd.r.b c (by omega) HS.out.rd.bs
     obtain ⟨a5,q5,rfl,-⟩:=id ho5.row
     have HG5:=HS.out.gather hg5 ho5
     rw [show (x.m.buf++[c]).length=x.m.buf.length+1 by simp] at HG5 hr5
     have c5:=HG5.1
     have f5:=HG5.2.1
     replace HS:=hid HG5.2.2
     clear HG5 hg5 ho5 HN
     go_wp2_with (at_builtin;refine wpList_append_run hr5 rfl _ _ rfl rfl rfl rfl ?_)
     clear hr5 c5 f5 c49 f49
     refine (uon_calls 10 _).mono ?_
     rintro e w1 ⟨rfl,hb⟩
     replace HS:=hid (HS.out.below hb)
     clear hb
     obtain ⟨d0,e0⟩:=HS.out.res.cell 0 rfl
     obtain ⟨d1,e1⟩:=HS.out.res.cell 1 rfl
     obtain ⟨d2,e2⟩:=HS.out.res.cell 2 rfl
     go_wp2_with fail
     refine bodyPost_ret (by simp [results,Tryz.results98,go_sem,d0,d1,d2];try rfl) rfl ?_
     exact HS.out.told (fun h=>absurd h (by decide))
  ·rw [if_pos rfl]
   obtain ⟨sp,hsp⟩:∃sp,spM x.m=sp:=⟨_,rfl⟩
   rw [hsp]
   rcases e58 with e58 | ⟨e58,rfl⟩
   ·skip
    go_enter Tryz.func98,Tryz.ntmps98
    go_upto_region 1 with fail
    generalize w.alloc (.cells #[.int .i64 0,.int .i64 0,.int .i64 0] MT)=w0 at *
    generalize w.heap.size=R at *
    have c54:=HS.out.rd.at 54 rfl
    rw [hbk] at c54
    have HEn:=hid (uendsA_calls HS.out.rd c)
    rw [hn] at HEn
    go_wp2_with fail
    refine HEn.out.mono ?_
    rintro e w1 ⟨rfl,hw⟩
    subst hw
    clear HEn
    go_wp2_with fail
    refine (uagain_calls 12 _).mono ?_
    rintro e w2 ⟨rfl,hb2⟩
    replace HS:=hid (HS.out.below hb2)
    clear hb2 c54
    have HSp:=hid (uspecial_calls HS.out.rd)
    rw [hsp] at HSp
    go_wp2_with fail
    refine HSp.out.mono ?_
    rintro e w3 ⟨rfl,hw⟩
    subst hw
    clear HSp
    go_wp2_with fail
    refine (uleaveHost_calls HS.out.rd 12 0 (!sp) hb (by decide)).mono ?_
    rintro e w1 ⟨rfl,hb,hk,hr⟩
    have HR1:=HS.out.res.kept (hk _ _ MT _ (Or.inl rfl) HS.out.res)
    obtain ⟨d0,e0⟩:=HR1.cell 0 rfl
    obtain ⟨d1,e1⟩:=HR1.cell 1 rfl
    obtain ⟨d2,e2⟩:=HR1.cell 2 rfl
    have HP:=hid (fun a b c=>St.pass HS.out hb hk hr (a:=a) (b:=b) (c:=c))
    clear hb hk hr HR1
    go_wp2_with fail
    refine bodyPost_ret (by simp [results,Tryz.results98,go_sem,d0,d1,d2];try rfl) rfl ?_
    exact HP.out _ _ _
   ·skip
    go_enter Tryz.func98,Tryz.ntmps98
    go_upto_region 1 with fail
    generalize w.alloc (.cells #[.int .i64 0,.int .i64 0,.int .i64 0] MT)=w0 at *
    generalize w.heap.size=R at *
    have c54:=HS.out.rd.at 54 rfl
    rw [hbk] at c54
    have HEn:=hid (uendsA_calls HS.out.rd c)
    rw [hn] at HEn
    go_wp2_with fail
    refine HEn.out.mono ?_
    rintro e w1 ⟨rfl,hw⟩
    subst hw
    clear HEn
    go_wp2_with fail
    refine (uagain_calls 12 _).mono ?_
    rintro e w2 ⟨rfl,hb2⟩
    replace HS:=hid (HS.out.below hb2)
    clear hb2 c54
    have HSp:=hid (uspecial_calls HS.out.rd)
    rw [hsp] at HSp
    go_wp2_with fail
    refine HSp.out.mono ?_
    rintro e w3 ⟨rfl,hw⟩
    subst hw
    clear HSp
    go_wp2_with fail
    refine (uleaveHost_calls HS.out.rd 12 0 (!sp) hb (by decide)).mono ?_
    rintro e w1 ⟨rfl,hb,hk,hr⟩
    have HR1:=HS.out.res.kept (hk _ _ MT _ (Or.inl rfl) HS.out.res)
    obtain ⟨d0,e0⟩:=HR1.cell 0 rfl
    obtain ⟨d1,e1⟩:=HR1.cell 1 rfl
    obtain ⟨d2,e2⟩:=HR1.cell 2 rfl
    have HP:=hid (fun a b c=>St.pass HS.out hb hk hr (a:=a) (b:=b) (c:=c))
    clear hb hk hr HR1
    go_wp2_with fail
    refine bodyPost_ret (by simp [results,Tryz.results98,go_sem,d0,d1,d2];try rfl) rfl ?_
    exact HP.out _ _ _
theorem uport_calls {E:Prop} {w:World} {B g:Nat} {x:RdP} {tv bpv upv bv uv pv:Value} (h:Rd E w B g x tv bpv upv bv uv pv) (c:Int) (hb:x.m.buf.length≤20000) (hd:∀d∈x.m.buf,48≤d∧d≤57) :
 Calls Tryz.prog 99 #[.pointer (some ⟨g,0,none⟩),.int .i64 c] w fun e w'=>MP B g (portP x c) w e w':=by
 have HS:=hid (St.new h)
 unfold portP
 clear h
 have HDg:=hid (fun w=>udigit_calls c w)
 obtain ⟨qa,qc,hbv,-⟩:=HS.out.rd.r.b.row
 subst hbv
 cases hdg:digC c
 ·rw [if_neg (by decide)]
  rw [hdg] at HDg
  cases hn:endsA x.m c
  ·rw [if_pos rfl]
   go_enter Tryz.func99,Tryz.ntmps99
   go_upto_region 1 with fail
   generalize w.alloc (.cells #[.int .i64 0,.int .i64 0,.int .i64 0] MT)=w0 at *
   generalize w.heap.size=R at *
   have HEn:=hid (uendsA_calls HS.out.rd c)
   rw [hn] at HEn
   have c49:=HS.out.rd.at 49 rfl
   go_wp2_with fail
   refine (HDg.out _).mono ?_
   rintro e w9 ⟨rfl,hw⟩
   subst hw
   go_wp2_with fail
   refine HEn.out.mono ?_
   rintro e w1 ⟨rfl,hw⟩
   subst hw
   clear HEn
   go_wp2_with fail
   refine (ufail_calls 4 _).mono ?_
   rintro e w1 ⟨rfl,hb⟩
   replace HS:=hid (HS.out.below hb)
   clear hb
   obtain ⟨d0,e0⟩:=HS.out.res.cell 0 rfl
   obtain ⟨d1,e1⟩:=HS.out.res.cell 1 rfl
   obtain ⟨d2,e2⟩:=HS.out.res.cell 2 rfl
   go_wp2_with fail
   refine bodyPost_ret (by simp [results,Tryz.results99,go_sem,d0,d1,d2];try rfl) rfl ?_
   exact HS.out.fails (by decide)
  ·rw [if_neg (by decide)]
   by_cases hz:x.m.buf=[]
   ·rw [if_pos hz]
    go_enter Tryz.func99,Tryz.ntmps99
    go_upto_region 1 with fail
    generalize w.alloc (.cells #[.int .i64 0,.int .i64 0,.int .i64 0] MT)=w0 at *
    generalize w.heap.size=R at *
    have HEn:=hid (uendsA_calls HS.out.rd c)
    rw [hn] at HEn
    have c49:=HS.out.rd.at 49 rfl
    rw [hz] at c49
    go_wp2_with fail
    refine (HDg.out _).mono ?_
    rintro e w9 ⟨rfl,hw⟩
    subst hw
    go_wp2_with fail
    refine HEn.out.mono ?_
    rintro e w1 ⟨rfl,hw⟩
    subst hw
    clear HEn
    go_wp2_with fail
    refine (uagain_calls 12 _).mono ?_
    rintro e w1 ⟨rfl,hb⟩
    replace HS:=hid (HS.out.below hb)
    clear hb
    obtain ⟨d0,e0⟩:=HS.out.res.cell 0 rfl
    obtain ⟨d1,e1⟩:=HS.out.res.cell 1 rfl
    obtain ⟨d2,e2⟩:=HS.out.res.cell 2 rfl
    go_wp2_with fail
    refine bodyPost_ret (by simp [results,Tryz.results99,go_sem,d0,d1,d2];try rfl) rfl ?_
    exact HS.out.told (fun h=>absurd h (by decide))
   ·rw [if_neg hz]
    have hb1:((x.m.buf.length:Int)==0)=false:=beq_eq_false_iff_ne.2 (fun h=>hz (List.eq_nil_of_length_eq_zero (by omega)))
    have hpb:=port_bounds _ x.m.buf rfl hd
    obtain ⟨N,hN⟩:∃N,portNumP x.m.buf=N:=⟨_,rfl⟩
    rw [hN] at hpb ⊢
    clear hz
    by_cases hm:65535 < N
    ·rw [if_pos hm]
     go_enter Tryz.func99,Tryz.ntmps99
     go_upto_region 1 with fail
     generalize w.alloc (.cells #[.int .i64 0,.int .i64 0,.int .i64 0] MT)=w0 at *
     generalize w.heap.size=R at *
     have HEn:=hid (uendsA_calls HS.out.rd c)
     rw [hn] at HEn
     have c49:=HS.out.rd.at 49 rfl
     go_wp2_with fail
     refine (HDg.out _).mono ?_
     rintro e w9 ⟨rfl,hw⟩
     subst hw
     go_wp2_with fail
     refine HEn.out.mono ?_
     rintro e w1 ⟨rfl,hw⟩
     subst hw
     clear HEn
     go_wp2_with fail
     refine (utake_calls HS.out).mono ?_
     rintro e w2 ⟨rfl,hT⟩
     replace HS:=hid hT.1
     have HRw:=hid hT.2.1.row
     clear hT c49
     have HPn:=hid (uportNum_calls _ _ w2 HRw.out (by omega) hd)
     rw [hN] at HPn
     go_wp2_with fail
     refine HPn.out.mono ?_
     rintro e w3 ⟨rfl,hw⟩
     subst hw
     clear HPn HRw
     go_wp2_with fail
     refine (ufail_calls 1 _).mono ?_
     rintro e w1 ⟨rfl,hb⟩
     replace HS:=hid (HS.out.below hb)
     clear hb
     obtain ⟨d0,e0⟩:=HS.out.res.cell 0 rfl
     obtain ⟨d1,e1⟩:=HS.out.res.cell 1 rfl
     obtain ⟨d2,e2⟩:=HS.out.res.cell 2 rfl
     go_wp2_with fail
     refine bodyPost_ret (by simp [results,Tryz.results99,go_sem,d0,d1,d2];try rfl) rfl ?_
     exact HS.out.fails (by decide)
    ·rw [if_neg hm]
     have hm2:¬(65535:Int) < N:=hm
     rw [show x.on portM=x.on (fun m=>{ m with buf:=[],u:={ m.u with port:=if spM x.m=false∨N≠(specialN x.m.u.sch:Int) then N else x.m.u.port } }) by unfold portM;simp only [RdP.on,hN]]
     cases hsp:spM x.m
     ·rw [if_pos (Or.inl rfl)]
      go_enter Tryz.func99,Tryz.ntmps99
      go_upto_region 1 with fail
      generalize w.alloc (.cells #[.int .i64 0,.int .i64 0,.int .i64 0] MT)=w0 at *
      generalize w.heap.size=R at *
      have HEn:=hid (uendsA_calls HS.out.rd c)
      rw [hn] at HEn
      have c49:=HS.out.rd.at 49 rfl
      go_wp2_with fail
      refine (HDg.out _).mono ?_
      rintro e w9 ⟨rfl,hw⟩
      subst hw
      go_wp2_with fail
      refine HEn.out.mono ?_
      rintro e w1 ⟨rfl,hw⟩
      subst hw
      clear HEn
      go_wp2_with fail
      refine (utake_calls HS.out).mono ?_
      rintro e w2 ⟨rfl,hT⟩
      replace HS:=hid hT.1
      have HRw:=hid hT.2.1.row
      clear hT c49
      have HPn:=hid (uportNum_calls _ _ w2 HRw.out (by omega) hd)
      rw [hN] at HPn
      go_wp2_with fail
      refine HPn.out.mono ?_
      rintro e w3 ⟨rfl,hw⟩
      subst hw
      clear HPn HRw
      have HSp:=hid (uspecial_calls HS.out.rd)
      rw [show spM (x.on takeM).m=spM x.m from rfl,hsp] at HSp
      have c26:World.cell? _ ⟨g,26,none⟩=some (.string (strOf x.m.u.sch)):=HS.out.rd.at 26 rfl
      have c41:=HS.out.rd.at 41 rfl
      have f41:=HS.out.rd.free 41 (by decide)
      go_wp2_with fail
      refine HSp.out.mono ?_
      rintro e w4 ⟨rfl,hw⟩
      subst hw
      clear HSp
      go_wp2_with fail
      replace HS:=hid (HS.out.flat (x':=x.on (fun m=>{ m with buf:=[],u:={ m.u with port:=N } })) [(41,.int .i64 N)] rfl)
      refine (uagain_calls 12 _).mono ?_
      rintro e w1 ⟨rfl,hb⟩
      replace HS:=hid (HS.out.below hb)
      clear hb
      obtain ⟨d0,e0⟩:=HS.out.res.cell 0 rfl
      obtain ⟨d1,e1⟩:=HS.out.res.cell 1 rfl
      obtain ⟨d2,e2⟩:=HS.out.res.cell 2 rfl
      go_wp2_with fail
      refine bodyPost_ret (by simp [results,Tryz.results99,go_sem,d0,d1,d2];try rfl) rfl ?_
      exact HS.out.told (fun h=>absurd h (by decide))
     ·have HSc:=hid (fun w=>uSpecial_calls (strOf x.m.u.sch) w)
      rw [str_data] at HSc
      obtain ⟨M,hM⟩:∃M,(specialN x.m.u.sch:Int)=M:=⟨_,rfl⟩
      rw [hM] at HSc ⊢
      cases hq:N==M
      ·rw [if_pos (Or.inr (beq_eq_false_iff_ne.1 hq))]
       have hq2:(N != M)=true:=by rw [bne,hq];rfl
       go_enter Tryz.func99,Tryz.ntmps99
       go_upto_region 1 with fail
       generalize w.alloc (.cells #[.int .i64 0,.int .i64 0,.int .i64 0] MT)=w0 at *
       generalize w.heap.size=R at *
       have HEn:=hid (uendsA_calls HS.out.rd c)
       rw [hn] at HEn
       have c49:=HS.out.rd.at 49 rfl
       go_wp2_with fail
       refine (HDg.out _).mono ?_
       rintro e w9 ⟨rfl,hw⟩
       subst hw
       go_wp2_with fail
       refine HEn.out.mono ?_
       rintro e w1 ⟨rfl,hw⟩
       subst hw
       clear HEn
       go_wp2_with fail
       refine (utake_calls HS.out).mono ?_
       rintro e w2 ⟨rfl,hT⟩
       replace HS:=hid hT.1
       have HRw:=hid hT.2.1.row
       clear hT c49
       have HPn:=hid (uportNum_calls _ _ w2 HRw.out (by omega) hd)
       rw [hN] at HPn
       go_wp2_with fail
       refine HPn.out.mono ?_
       rintro e w3 ⟨rfl,hw⟩
       subst hw
       clear HPn HRw
       have HSp:=hid (uspecial_calls HS.out.rd)
       rw [show spM (x.on takeM).m=spM x.m from rfl,hsp] at HSp
       have c26:World.cell? _ ⟨g,26,none⟩=some (.string (strOf x.m.u.sch)):=HS.out.rd.at 26 rfl
       have c41:=HS.out.rd.at 41 rfl
       have f41:=HS.out.rd.free 41 (by decide)
       go_wp2_with fail
       refine HSp.out.mono ?_
       rintro e w4 ⟨rfl,hw⟩
       subst hw
       clear HSp
       go_wp2_with fail
       refine (HSc.out _).mono ?_
       rintro e w5 ⟨rfl,hw⟩
       subst hw
       clear HSc
       go_wp2_with fail
       replace HS:=hid (HS.out.flat (x':=x.on (fun m=>{ m with buf:=[],u:={ m.u with port:=N } })) [(41,.int .i64 N)] rfl)
       refine (uagain_calls 12 _).mono ?_
       rintro e w1 ⟨rfl,hb⟩
       replace HS:=hid (HS.out.below hb)
       clear hb
       obtain ⟨d0,e0⟩:=HS.out.res.cell 0 rfl
       obtain ⟨d1,e1⟩:=HS.out.res.cell 1 rfl
       obtain ⟨d2,e2⟩:=HS.out.res.cell 2 rfl
       go_wp2_with fail
       refine bodyPost_ret (by simp [results,Tryz.results99,go_sem,d0,d1,d2];try rfl) rfl ?_
       exact HS.out.told (fun h=>absurd h (by decide))
      ·rw [if_neg (fun h=>h.elim (fun e=>absurd e (by decide)) (fun e=>e (eq_of_beq hq)))]
       have hq2:(N != M)=false:=by rw [bne,hq];rfl
       go_enter Tryz.func99,Tryz.ntmps99
       go_upto_region 1 with fail
       generalize w.alloc (.cells #[.int .i64 0,.int .i64 0,.int .i64 0] MT)=w0 at *
       generalize w.heap.size=R at *
       have HEn:=hid (uendsA_calls HS.out.rd c)
       rw [hn] at HEn
       have c49:=HS.out.rd.at 49 rfl
       go_wp2_with fail
       refine (HDg.out _).mono ?_
       rintro e w9 ⟨rfl,hw⟩
       subst hw
       go_wp2_with fail
       refine HEn.out.mono ?_
       rintro e w1 ⟨rfl,hw⟩
       subst hw
       clear HEn
       go_wp2_with fail
       refine (utake_calls HS.out).mono ?_
       rintro e w2 ⟨rfl,hT⟩
       replace HS:=hid hT.1
       have HRw:=hid hT.2.1.row
       clear hT c49
       have HPn:=hid (uportNum_calls _ _ w2 HRw.out (by omega) hd)
       rw [hN] at HPn
       go_wp2_with fail
       refine HPn.out.mono ?_
       rintro e w3 ⟨rfl,hw⟩
       subst hw
       clear HPn HRw
       have HSp:=hid (uspecial_calls HS.out.rd)
       rw [show spM (x.on takeM).m=spM x.m from rfl,hsp] at HSp
       have c26:World.cell? _ ⟨g,26,none⟩=some (.string (strOf x.m.u.sch)):=HS.out.rd.at 26 rfl
       have c41:=HS.out.rd.at 41 rfl
       have f41:=HS.out.rd.free 41 (by decide)
       go_wp2_with fail
       refine HSp.out.mono ?_
       rintro e w4 ⟨rfl,hw⟩
       subst hw
       clear HSp
       go_wp2_with fail
       refine (HSc.out _).mono ?_
       rintro e w5 ⟨rfl,hw⟩
       subst hw
       clear HSc
       go_wp2_with fail
       refine (uagain_calls 12 _).mono ?_
       rintro e w1 ⟨rfl,hb⟩
       replace HS:=hid (HS.out.below hb)
       clear hb
       obtain ⟨d0,e0⟩:=HS.out.res.cell 0 rfl
       obtain ⟨d1,e1⟩:=HS.out.res.cell 1 rfl
       obtain ⟨d2,e2⟩:=HS.out.res.cell 2 rfl
       go_wp2_with fail
       refine bodyPost_ret (by simp [results,Tryz.results99,go_sem,d0,d1,d2];try rfl) rfl ?_
       exact HS.out.told (fun h=>absurd h (by decide))
 ·rw [if_pos rfl]
  rw [hdg] at HDg
  go_enter Tryz.func99,Tryz.ntmps99
  go_upto_region 1 with fail
  generalize w.alloc (.cells #[.int .i64 0,.int .i64 0,.int .i64 0] MT)=w0 at *
  generalize w.heap.size=R at *
  have c49:=HS.out.rd.at 49 rfl
  have f49:=HS.out.rd.free 49 (by decide)
  go_wp2_with fail
  refine (HDg.out _).mono ?_
  rintro e w9 ⟨rfl,hw⟩
  subst hw
  have HN:=World.new_ne _ _ c49
  obtain ⟨v5,w5,hr5,ho5,hg5⟩:=push_int (xs:=x.m.buf) HS.out.rd.r.b c (by omega) HS.out.rd.bs
  obtain ⟨a5,q5,rfl,-⟩:=id ho5.row
  have HG5:=HS.out.gather hg5 ho5
  rw [show (x.m.buf++[c]).length=x.m.buf.length+1 by simp] at HG5 hr5
  have c5:=HG5.1
  have f5:=HG5.2.1
  replace HS:=hid HG5.2.2
  clear HG5 hg5 ho5 HN
  go_wp2_with (at_builtin;refine wpList_append_run hr5 rfl _ _ rfl rfl rfl rfl ?_)
  clear hr5 c5 f5 c49 f49
  refine (uon_calls 11 _).mono ?_
  rintro e w1 ⟨rfl,hb⟩
  replace HS:=hid (HS.out.below hb)
  clear hb
  obtain ⟨d0,e0⟩:=HS.out.res.cell 0 rfl
  obtain ⟨d1,e1⟩:=HS.out.res.cell 1 rfl
  obtain ⟨d2,e2⟩:=HS.out.res.cell 2 rfl
  go_wp2_with fail
  refine bodyPost_ret (by simp [results,Tryz.results99,go_sem,d0,d1,d2];try rfl) rfl ?_
  exact HS.out.told (fun h=>absurd h (by decide))
section
variable {E:Prop} {W w w':World} {B g R:Nat} {x:RdP} {tv bpv upv bv uv pv:Value}
theorem St.user {uv':Value} {l:List Int} (h:St E W w B g R x tv bpv upv bv uv pv) (hG:Grew w w' B uv uv') (ho:IOwn w' B uv' l) :
 w'.cell? ⟨g,50,none⟩=some uv∧w'.frozen? ⟨g,50,none⟩=false∧St E W (w'.setCell ⟨g,50,none⟩ uv') B g R { x with us:=l } tv bpv upv bv uv' pv:=by
 have hc:=hG.rd h.rd.c (int_rt h.rd.r.u)
 have hk:=hG.keep (int_mt h.rd.r.u)
 refine ⟨(hc.cell 50 rfl).1,(hc.cell 50 rfl).2,⟨h.rd.bg,hc.set 50 uv',(h.rd.r.growU hG ho).set hc 50 uv',(h.rd.tab.below hG.bel).below (setB w' h.rd.bg 50 uv')⟩,?_,h.bs,h.low,(h.bel.trans hG.bel).setCell (p:=⟨g,50,none⟩) h.rd.bg uv',(h.keep.trans hk).trans (keepSet hc)⟩
 exact (h.res.kept (hk R _ MT _ (Or.inl rfl) h.res)).kept (heap_setCell_other w' _ _ _ (fun e=>h.ne e))
theorem St.pasw {pv':Value} {l:List Int} (h:St E W w B g R x tv bpv upv bv uv pv) (hG:Grew w w' B pv pv') (ho:IOwn w' B pv' l) :
 w'.cell? ⟨g,51,none⟩=some pv∧w'.frozen? ⟨g,51,none⟩=false∧St E W (w'.setCell ⟨g,51,none⟩ pv') B g R { x with ps:=l } tv bpv upv bv uv pv':=by
 have hc:=hG.rd h.rd.c (int_rt h.rd.r.p)
 have hk:=hG.keep (int_mt h.rd.r.p)
 refine ⟨(hc.cell 51 rfl).1,(hc.cell 51 rfl).2,⟨h.rd.bg,hc.set 51 pv',(h.rd.r.growP hG ho).set hc 51 pv',(h.rd.tab.below hG.bel).below (setB w' h.rd.bg 51 pv')⟩,?_,h.bs,h.low,(h.bel.trans hG.bel).setCell (p:=⟨g,51,none⟩) h.rd.bg pv',(h.keep.trans hk).trans (keepSet hc)⟩
 exact (h.res.kept (hk R _ MT _ (Or.inl rfl) h.res)).kept (heap_setCell_other w' _ _ _ (fun e=>h.ne e))
end
def Side (w:World) (B:Nat) (z:Value) (l:List Int) (uv pv:Value):Prop:=IOwn w B z l∧Ap z uv∧Ap z pv
theorem Side.grown {w w':World} {B g i:Nat} {z v v' o:Value} {l:List Int} (h:IOwn w B z l) (hv:Ap z v) (hG:Grew w w' B v v') {xs:List Value} (hc:Bc RT w' g xs):IOwn (w'.setCell ⟨g,i,none⟩ o) B z l∧Ap z v':=by
 have h1:=own_kept h (hG.far hv.symm (own_ltU h))
 refine ⟨own_kept h1 (fun k e=>heap_setCell_other w' _ k _ (fun e2=>typ_apart hc ?_ e2)),(hG.ap hv.symm (own_ltU h)).symm⟩
 obtain ⟨cs,fr,hh⟩:=(own_trow h1).2 k e
 exact ⟨cs,_,fr,hh,by decide⟩
theorem Side.set {w:World} {B g i:Nat} {z uv pv o:Value} {l:List Int} (h:Side w B z l uv pv) {xs:List Value} (hc:Bc RT w g xs):Side (w.setCell ⟨g,i,none⟩ o) B z l uv pv :=
 ⟨own_kept h.1 (fun k e=>heap_setCell_other w _ k _ (fun e2=>typ_apart hc (by obtain ⟨cs,fr,hh⟩:=(own_trow h.1).2 k e;exact ⟨cs,_,fr,hh,by decide⟩) e2)),h.2.1,h.2.2⟩
theorem uaddCred_calls {E:Prop} {W w:World} {B g R:Nat} {x:RdP} {tv bpv upv bv uv pv z:Value} {lz:List Int} (h:St E W w B g R x tv bpv upv bv uv pv) (hz:Side w B z lz uv pv) (c:Int) (h1:x.us.length≤100000) (h2:x.ps.length≤100000) :
 Calls Tryz.prog 173 #[.pointer (some ⟨g,0,none⟩),.int .i64 c] w fun e w'=>e=.returned (.tuple #[])∧∃uv' pv',St E W w' B g R { x with us:=(addC x.m.colon x.us x.ps c).1,ps:=(addC x.m.colon x.us x.ps c).2 } tv bpv upv bv uv' pv'∧Side w' B z lz uv' pv':=by
 have HS:=hid h
 have HZ:=hid hz
 unfold addC
 clear h hz
 cases hc:x.m.colon with
 | true =>
   have c53:=HS.out.rd.at 53 rfl
   rw [hc] at c53
   have c51:=HS.out.rd.at 51 rfl
   have f51:=HS.out.rd.free 51 (by decide)
   obtain ⟨v5,w5,hr5,ho5,hg5⟩:=push_int HS.out.rd.r.p c (by omega) HS.out.rd.bs
   obtain ⟨a5,q5,rfl,-⟩:=id ho5.row
   have hcc:=hg5.rd HS.out.rd.c (int_rt HS.out.rd.r.p)
   have HG5:=HS.out.pasw hg5 ho5
   have HZ5:=hid (Side.grown (i:=51) (o:=.slice a5 (x.ps++[c]).length q5) HZ.out.1 HZ.out.2.2 hg5 hcc)
   rw [show (x.ps++[c]).length=x.ps.length+1 by simp] at HG5 hr5 HZ5
   have c5:=HG5.1
   have f5:=HG5.2.1
   replace HS:=hid HG5.2.2
   have HZ2:=hid HZ.out.2.1
   clear HG5 hg5 ho5 HZ hcc
   go_enter Tryz.func173,Tryz.ntmps173
   go_wp2_with (at_builtin;refine wpList_append_run hr5 rfl _ _ rfl rfl rfl rfl ?_)
   refine bodyPost_ret (by simp [results,Tryz.results173,go_sem];try rfl) rfl ?_
   exact ⟨rfl,_,_,HS.out,HZ5.out.1,HZ2.out,HZ5.out.2⟩
 | false =>
   have c53:=HS.out.rd.at 53 rfl
   rw [hc] at c53
   have c50:=HS.out.rd.at 50 rfl
   have f50:=HS.out.rd.free 50 (by decide)
   obtain ⟨v5,w5,hr5,ho5,hg5⟩:=push_int HS.out.rd.r.u c (by omega) HS.out.rd.bs
   obtain ⟨a5,q5,rfl,-⟩:=id ho5.row
   have hcc:=hg5.rd HS.out.rd.c (int_rt HS.out.rd.r.u)
   have HG5:=HS.out.user hg5 ho5
   have HZ5:=hid (Side.grown (i:=50) (o:=.slice a5 (x.us++[c]).length q5) HZ.out.1 HZ.out.2.1 hg5 hcc)
   rw [show (x.us++[c]).length=x.us.length+1 by simp] at HG5 hr5 HZ5
   have c5:=HG5.1
   have f5:=HG5.2.1
   replace HS:=hid HG5.2.2
   have HZ2:=hid HZ.out.2.2
   clear HG5 hg5 ho5 HZ hcc
   go_enter Tryz.func173,Tryz.ntmps173
   go_wp2_with (at_builtin;refine wpList_append_run hr5 rfl _ _ rfl rfl rfl rfl ?_)
   go_end0
   exact ⟨rfl,_,_,HS.out,HZ5.out.1,HZ5.out.2,HZ2.out⟩
theorem credS_take (l:List Int) (b:Bool) (us ps:List Int) (k:Nat) (h:k < l.length):credS (l.take (k+1)) b us ps =
 (if l[k]=58∧(credS (l.take k) b us ps).1=false then (true,(credS (l.take k) b us ps).2.1,(credS (l.take k) b us ps).2.2)
 else ((credS (l.take k) b us ps).1,(addC (credS (l.take k) b us ps).1 (credS (l.take k) b us ps).2.1 (credS (l.take k) b us ps).2.2 l[k]).1,(addC (credS (l.take k) b us ps).1 (credS (l.take k) b us ps).2.1 (credS (l.take k) b us ps).2.2 l[k]).2)):=by
 have key:∀(q:List Int) (b:Bool) (us ps:List Int) (c:Int),credS (q++[c]) b us ps=(if c=58∧(credS q b us ps).1=false then (true,(credS q b us ps).2.1,(credS q b us ps).2.2)
  else ((credS q b us ps).1,(addC (credS q b us ps).1 (credS q b us ps).2.1 (credS q b us ps).2.2 c).1,(addC (credS q b us ps).1 (credS q b us ps).2.1 (credS q b us ps).2.2 c).2)):=by
  intro q
  induction q with
  | nil =>
    intro b us ps c
    show credS [c] b us ps=_
    unfold credS
    split<;>rfl
  | cons d q ih =>
    intro b us ps c
    rw [List.cons_append]
    by_cases h2:d=58∧b=false
    ·have e:∀r,credS (d::r) b us ps=credS r true us ps:=fun r=>by rw [credS,if_pos h2]
     rw [e,e,ih]
    ·have e:∀r,credS (d::r) b us ps=credS r b (addC b us ps d).1 (addC b us ps d).2:=fun r=>by rw [credS,if_neg h2]
     rw [e,e,ih]
 rw [List.take_succ_eq_append_getElem h,key]
theorem rowI_at {w:World} {a:Option Addr} {n cap:Nat} {l:List Int} (h:IRow w (.slice a n cap) l) {k:Nat} (hk:k < l.length):∃b off,a=some ⟨b,off,none⟩∧w.cell? ⟨b,off+k,none⟩=some (.int .i64 l[k]):=by
 obtain ⟨a',cap',he,h1,h2,h3⟩:=h
 injection he with e1 e2 e3
 subst e1 e2 e3
 obtain ⟨b,off,rfl,hlt,hc⟩:=h3 (by intro e;rw [e] at hk;simp at hk)
 exact ⟨b,off,rfl,hc k hk⟩
theorem utakeCred_calls {E:Prop} {W w:World} {B g R:Nat} {x:RdP} {tv bpv upv bv uv pv:Value} (h:St E W w B g R x tv bpv upv bv uv pv) (hl:x.us.length+x.ps.length+x.m.buf.length≤20000) :
 Calls Tryz.prog 140 #[.pointer (some ⟨g,0,none⟩)] w fun e w'=>e=.returned (.tuple #[])∧∃uv' pv',St E W w' B g R (credP x) tv bpv upv nilV uv' pv':=by
 have HS:=hid h
 clear h
 obtain ⟨ba,bc,hbv,q1,q2,-⟩:=HS.out.rd.r.b.row
 subst hbv
 obtain ⟨n,hn⟩:∃n,x.m.buf.length=n:=⟨_,rfl⟩
 have HN:=hid hn
 have HL:Hid (x.us.length+x.ps.length+n≤20000):=by rw [← hn];exact hl
 obtain ⟨us0,hu0⟩:∃u,(credB x).1=u:=⟨_,rfl⟩
 obtain ⟨ps0,hp0⟩:∃u,(credB x).2=u:=⟨_,rfl⟩
 have HC0:Hid (∀k,k≤n→(credS (x.m.buf.take k) x.m.colon us0 ps0).2.1.length≤100000∧(credS (x.m.buf.take k) x.m.colon us0 ps0).2.2.length≤100000):=fun k hk=>by
  have k1:=credS_len (x.m.buf.take k) x.m.colon us0 ps0
  have k2:us0.length+ps0.length≤x.us.length+x.ps.length+1:=by
   rw [← hu0,← hp0];unfold credB;split
   ·rw [add_len];omega
   ·simp
  have:=HL.out
  rw [List.length_take] at k1
  omega
 have HP:Hid (credP x={ m:={ x.m with seen:=true,colon:=(credS x.m.buf x.m.colon us0 ps0).1,buf:=[] },us:=(credS x.m.buf x.m.colon us0 ps0).2.1,ps:=(credS x.m.buf x.m.colon us0 ps0).2.2 }):=by show _=_;unfold credP;rw [hu0,hp0]
 rw [HP.out]
 have n0:(n:Int)≤20000:=by have:=HL.out;omega
 have n1:n≤bc:=by omega
 unfold maxLen at q2
 clear hl
 cases hs:x.m.seen with
 | false =>
   have c52:=HS.out.rd.at 52 rfl
   have f52:=HS.out.rd.free 52 (by decide)
   rw [hs] at c52
   have e1:us0=x.us:=by rw [← hu0];unfold credB;rw [hs];rfl
   have e2:ps0=x.ps:=by rw [← hp0];unfold credB;rw [hs];rfl
   have HS1:Hid (St E W (w.setCell ⟨g,52,none⟩ (.bool true)) B g R { m:={ x.m with seen:=true },us:=us0,ps:=ps0 } tv bpv upv (.slice ba n bc) uv pv):=by
    rw [e1,e2,← hn]
    exact HS.out.flat (x':=x.on (fun m=>{ m with seen:=true })) [(52,.bool true)] rfl
   clear hs hu0 hp0 hn q1 e1 e2 HS
   have HS:=HS1
   clear HS1
   go_enter Tryz.func140,Tryz.ntmps140
   go_wp2_with fail
   refine (utake_calls HS.out).mono ?_
   rintro e w2 ⟨rfl,hT⟩
   have HS2:=hid hT.1
   have HZ2:Hid (Side w2 B (.slice ba n bc) x.m.buf _ _):=⟨hT.2.1,hT.2.2.1,hT.2.2.2⟩
   clear hT HS
   go_wp2_with fail
   go_loopw [16] (fun vi wr=>∃(k:Nat) (uvk pvk:Value),k≤n∧vi=.int .i64 (k:Int)∧St E W wr B g R { m:={ x.m with seen:=true,colon:=(credS (x.m.buf.take k) x.m.colon us0 ps0).1,buf:=[] },us:=(credS (x.m.buf.take k) x.m.colon us0 ps0).2.1,ps:=(credS (x.m.buf.take k) x.m.colon us0 ps0).2.2 } tv bpv upv nilV uvk pvk∧Side wr B (.slice ba n bc) x.m.buf uvk pvk) (fun vi _=>n-(intOf vi).toNat)
   case atStart=>exact ⟨0,_,_,Nat.zero_le _,rfl,HS2.out,HZ2.out⟩
   case round =>
    obtain ⟨k,uvk,pvk,hk,rfl,hst,hsd⟩:=hrel
    have HS3:=hid hst
    have HZ3:=hid hsd
    have HK:=hid hk
    clear hst hsd HS2 HZ2
    have k0:(0:Int)≤(k:Int):=by omega
    by_cases hlt:k < n
    ·have hlt2:k < x.m.buf.length:=by rw [HN.out];exact hlt
     obtain ⟨b,off,rfl,hck⟩:=rowI_at HZ3.out.1.row hlt2
     have HT:=hid (credS_take x.m.buf x.m.colon us0 ps0 k hlt2)
     have HB:=HC0.out k (by omega)
     have k1:(k:Int) < (n:Int):=by omega
     have HLT:=hid hlt
     have c53:=HS3.out.rd.at 53 rfl
     have f53:=HS3.out.rd.free 53 (by decide)
     obtain ⟨b1,b2⟩:=HB
     generalize x.m.buf[k]=c at *
     generalize credS (x.m.buf.take k) x.m.colon us0 ps0=r at *
     obtain ⟨cl,u1,p1⟩:=r
     dsimp only at *
     cases h58:c==58 with
     | true =>
       cases cl with
       | false =>
         rw [if_pos ⟨eq_of_beq h58,rfl⟩] at HT
         have HZ4:=hid (Side.set (i:=53) (o:=.bool true) HZ3.out HS3.out.rd.c)
         have HS4:=hid (HS3.out.flat (x':={ m:={ x.m with seen:=true,colon:=true,buf:=[] },us:=u1,ps:=p1 }) [(53,.bool true)] rfl)
         clear HS3 HZ3 b1 b2
         go_wp2_with fail
         go_roundw
         case rel=>exact ⟨k+1,_,_,HLT.out,by go_num,by rw [HT.out];exact HS4.out,HZ4.out⟩
         case measure=>have:=HLT.out;simp [intOf];omega
       | true =>
         rw [if_neg (fun h=>absurd h.2 (by decide))] at HT
         have HA:=hid (uaddCred_calls HS3.out HZ3.out c b1 b2)
         clear HS3 HZ3 b1 b2
         go_wp2_with fail
         refine HA.out.mono ?_
         rintro e w6 ⟨rfl,uv',pv',hs',hz'⟩
         have HS4:=hid hs'
         have HZ4:=hid hz'
         clear hs' hz' HA c53 f53
         go_wp2_with fail
         go_roundw
         case rel=>exact ⟨k+1,_,_,HLT.out,by go_num,by rw [HT.out];exact HS4.out,HZ4.out⟩
         case measure=>have:=HLT.out;simp [intOf];omega
     | false =>
       rw [if_neg (fun h=>absurd h.1 (beq_eq_false_iff_ne.1 h58))] at HT
       have HA:=hid (uaddCred_calls HS3.out HZ3.out c b1 b2)
       clear HS3 HZ3 b1 b2
       go_wp2_with fail
       refine HA.out.mono ?_
       rintro e w6 ⟨rfl,uv',pv',hs',hz'⟩
       have HS4:=hid hs'
       have HZ4:=hid hz'
       clear hs' hz' HA c53 f53
       go_wp2_with fail
       go_roundw
       case rel=>exact ⟨k+1,_,_,HLT.out,by go_num,by rw [HT.out];exact HS4.out,HZ4.out⟩
       case measure=>have:=HLT.out;simp [intOf];omega
    ·have hkn:k=n:=by omega
     have k1:¬(k:Int) < (n:Int):=by omega
     rw [List.take_of_length_le (by rw [HN.out];omega)] at HS3
     clear HC0 HZ3
     go_wp2_with fail
     go_end0
     exact ⟨rfl,_,_,HS3.out⟩
 | true =>
   have c52:=HS.out.rd.at 52 rfl
   rw [hs] at c52
   have e1:us0=(addC x.m.colon x.us x.ps 64).1:=by rw [← hu0];unfold credB;rw [hs];rfl
   have e2:ps0=(addC x.m.colon x.us x.ps 64).2:=by rw [← hp0];unfold credB;rw [hs];rfl
   have HZ0:Hid (Side w B nilV [] uv pv):=⟨Own.nil _ _ _ _,ap_nil _,ap_nil _⟩
   have HA:=hid (uaddCred_calls HS.out HZ0.out 64 (by have:=HL.out;omega) (by have:=HL.out;omega))
   rw [← e1,← e2,hn] at HA
   clear hu0 hp0 hn q1 e1 e2 HZ0 HS
   go_enter Tryz.func140,Tryz.ntmps140
   go_wp2_with fail
   refine HA.out.mono ?_
   rintro e w1 ⟨rfl,uv1,pv1,hst1,-⟩
   have HS:=hid hst1
   clear hst1 HA
   have c52:w1.cell? ⟨g,52,none⟩=some (.bool x.m.seen):=HS.out.rd.at 52 rfl
   rw [hs] at c52
   have f52:=HS.out.rd.free 52 (by decide)
   go_wp2_with fail
   replace HS:=hid (HS.out.flat (x':={ m:={ x.m with seen:=true },us:=us0,ps:=ps0 }) [(52,.bool true)] rfl)
   clear hs
   refine (utake_calls HS.out).mono ?_
   rintro e w2 ⟨rfl,hT⟩
   have HS2:=hid hT.1
   have HZ2:Hid (Side w2 B (.slice ba n bc) x.m.buf _ _):=⟨hT.2.1,hT.2.2.1,hT.2.2.2⟩
   clear hT HS
   go_wp2_with fail
   go_loopw [16] (fun vi wr=>∃(k:Nat) (uvk pvk:Value),k≤n∧vi=.int .i64 (k:Int)∧St E W wr B g R { m:={ x.m with seen:=true,colon:=(credS (x.m.buf.take k) x.m.colon us0 ps0).1,buf:=[] },us:=(credS (x.m.buf.take k) x.m.colon us0 ps0).2.1,ps:=(credS (x.m.buf.take k) x.m.colon us0 ps0).2.2 } tv bpv upv nilV uvk pvk∧Side wr B (.slice ba n bc) x.m.buf uvk pvk) (fun vi _=>n-(intOf vi).toNat)
   case atStart=>exact ⟨0,_,_,Nat.zero_le _,rfl,HS2.out,HZ2.out⟩
   case round =>
    obtain ⟨k,uvk,pvk,hk,rfl,hst,hsd⟩:=hrel
    have HS3:=hid hst
    have HZ3:=hid hsd
    have HK:=hid hk
    clear hst hsd HS2 HZ2
    have k0:(0:Int)≤(k:Int):=by omega
    by_cases hlt:k < n
    ·have hlt2:k < x.m.buf.length:=by rw [HN.out];exact hlt
     obtain ⟨b,off,rfl,hck⟩:=rowI_at HZ3.out.1.row hlt2
     have HT:=hid (credS_take x.m.buf x.m.colon us0 ps0 k hlt2)
     have HB:=HC0.out k (by omega)
     have k1:(k:Int) < (n:Int):=by omega
     have HLT:=hid hlt
     have c53:=HS3.out.rd.at 53 rfl
     have f53:=HS3.out.rd.free 53 (by decide)
     obtain ⟨b1,b2⟩:=HB
     generalize x.m.buf[k]=c at *
     generalize credS (x.m.buf.take k) x.m.colon us0 ps0=r at *
     obtain ⟨cl,u1,p1⟩:=r
     dsimp only at *
     cases h58:c==58 with
     | true =>
       cases cl with
       | false =>
         rw [if_pos ⟨eq_of_beq h58,rfl⟩] at HT
         have HZ4:=hid (Side.set (i:=53) (o:=.bool true) HZ3.out HS3.out.rd.c)
         have HS4:=hid (HS3.out.flat (x':={ m:={ x.m with seen:=true,colon:=true,buf:=[] },us:=u1,ps:=p1 }) [(53,.bool true)] rfl)
         clear HS3 HZ3 b1 b2
         go_wp2_with fail
         go_roundw
         case rel=>exact ⟨k+1,_,_,HLT.out,by go_num,by rw [HT.out];exact HS4.out,HZ4.out⟩
         case measure=>have:=HLT.out;simp [intOf];omega
       | true =>
         rw [if_neg (fun h=>absurd h.2 (by decide))] at HT
         have HA:=hid (uaddCred_calls HS3.out HZ3.out c b1 b2)
         clear HS3 HZ3 b1 b2
         go_wp2_with fail
         refine HA.out.mono ?_
         rintro e w6 ⟨rfl,uv',pv',hs',hz'⟩
         have HS4:=hid hs'
         have HZ4:=hid hz'
         clear hs' hz' HA c53 f53
         go_wp2_with fail
         go_roundw
         case rel=>exact ⟨k+1,_,_,HLT.out,by go_num,by rw [HT.out];exact HS4.out,HZ4.out⟩
         case measure=>have:=HLT.out;simp [intOf];omega
     | false =>
       rw [if_neg (fun h=>absurd h.1 (beq_eq_false_iff_ne.1 h58))] at HT
       have HA:=hid (uaddCred_calls HS3.out HZ3.out c b1 b2)
       clear HS3 HZ3 b1 b2
       go_wp2_with fail
       refine HA.out.mono ?_
       rintro e w6 ⟨rfl,uv',pv',hs',hz'⟩
       have HS4:=hid hs'
       have HZ4:=hid hz'
       clear hs' hz' HA c53 f53
       go_wp2_with fail
       go_roundw
       case rel=>exact ⟨k+1,_,_,HLT.out,by go_num,by rw [HT.out];exact HS4.out,HZ4.out⟩
       case measure=>have:=HLT.out;simp [intOf];omega
    ·have hkn:k=n:=by omega
     have k1:¬(k:Int) < (n:Int):=by omega
     rw [List.take_of_length_le (by rw [HN.out];omega)] at HS3
     clear HC0 HZ3
     go_wp2_with fail
     go_end0
     exact ⟨rfl,_,_,HS3.out⟩
end Go.Proofs.YtigfgloenjoeoaaGreatDoor
namespace Go.Proofs.YtigfgloenjoeoaaGreatDoor
open Go.RowKit
theorem uauth_calls {E:Prop} {w:World} {B g:Nat} {x:RdP} {tv bpv upv bv uv pv:Value} (h:Rd E w B g x tv bpv upv bv uv pv) (c:Int) (hb:x.m.buf.length≤x.m.p) (hp:x.m.p≤5000) (hl:x.us.length+x.ps.length+x.m.buf.length≤20000) :
 Calls Tryz.prog 97 #[.pointer (some ⟨g,0,none⟩),.int .i64 c] w fun e w'=>MP B g (authP x c) w e w':=by
 have HS:=hid (St.new h)
 unfold authP
 clear h
 cases h64:c==64
 ·rw [if_neg (beq_eq_false_iff_ne.1 h64)]
  cases hn:endsA x.m c
  ·rw [if_pos rfl]
   go_enter Tryz.func97,Tryz.ntmps97
   go_upto_region 1 with fail
   generalize w.alloc (.cells #[.int .i64 0,.int .i64 0,.int .i64 0] MT)=w0 at *
   generalize w.heap.size=R at *
   have c49:=HS.out.rd.at 49 rfl
   have f49:=HS.out.rd.free 49 (by decide)
   have HEn:=hid (uendsA_calls HS.out.rd c)
   rw [hn] at HEn
   go_wp2_with fail
   refine HEn.out.mono ?_
   rintro e w1 ⟨rfl,hw⟩
   subst hw
   have HN:=World.new_ne _ _ c49
   obtain ⟨v5,w5,hr5,ho5,hg5⟩:=push_int HS.out.rd.r.b c (by omega) HS.out.rd.bs
   obtain ⟨a5,q5,rfl,-⟩:=id ho5.row
   have HG5:=HS.out.gather hg5 ho5
   rw [show (x.m.buf++[c]).length=x.m.buf.length+1 by simp] at HG5 hr5
   have c5:=HG5.1
   have f5:=HG5.2.1
   replace HS:=hid HG5.2.2
   clear HG5 hg5 ho5 HN
   go_wp2_with (at_builtin;refine wpList_append_run hr5 rfl _ _ rfl rfl rfl rfl ?_)
   clear hr5 c5 f5 c49 f49
   refine (uon_calls 9 _).mono ?_
   rintro e w1 ⟨rfl,hb⟩
   replace HS:=hid (HS.out.below hb)
   clear hb
   obtain ⟨d0,e0⟩:=HS.out.res.cell 0 rfl
   obtain ⟨d1,e1⟩:=HS.out.res.cell 1 rfl
   obtain ⟨d2,e2⟩:=HS.out.res.cell 2 rfl
   go_wp2_with fail
   refine bodyPost_ret (by simp [results,Tryz.results97,go_sem,d0,d1,d2];try rfl) rfl ?_
   exact HS.out.told (fun h=>absurd h (by decide))
  ·rw [if_neg (by decide)]
   obtain ⟨qa,qc,hbv,-⟩:=HS.out.rd.r.b.row
   subst hbv
   by_cases hf:x.m.seen=true∧x.m.buf=[]
   ·rw [if_pos hf]
    go_enter Tryz.func97,Tryz.ntmps97
    go_upto_region 1 with fail
    generalize w.alloc (.cells #[.int .i64 0,.int .i64 0,.int .i64 0] MT)=w0 at *
    generalize w.heap.size=R at *
    have c52:=HS.out.rd.at 52 rfl
    have c49:=HS.out.rd.at 49 rfl
    have HEn:=hid (uendsA_calls HS.out.rd c)
    rw [hn] at HEn
    rw [hf.1] at c52
    rw [hf.2] at c49
    clear hf
    go_wp2_with fail
    refine HEn.out.mono ?_
    rintro e w1 ⟨rfl,hw⟩
    subst hw
    go_wp2_with fail
    refine (ufail_calls 6 _).mono ?_
    rintro e w1 ⟨rfl,hb⟩
    replace HS:=hid (HS.out.below hb)
    clear hb
    obtain ⟨d0,e0⟩:=HS.out.res.cell 0 rfl
    obtain ⟨d1,e1⟩:=HS.out.res.cell 1 rfl
    obtain ⟨d2,e2⟩:=HS.out.res.cell 2 rfl
    go_wp2_with fail
    refine bodyPost_ret (by simp [results,Tryz.results97,go_sem,d0,d1,d2];try rfl) rfl ?_
    exact HS.out.fails (by decide)
   ·rw [if_neg hf]
    obtain ⟨q,hq⟩:∃q,x.m.p-x.m.buf.length=q:=⟨_,rfl⟩
    have m1:(x.m.p:Int)-(x.m.buf.length:Int)=(q:Int):=by omega
    have m2:IntKind.wrap .i64 (q:Int)=(q:Int):=by rw [IntKind.wrap_i64];omega
    rw [show authM x={ x.m with u:={ x.m.u with usr:=encU 6 x.us,pas:=encU 6 x.ps },p:=q,buf:=[] } by unfold authM;rw [hq]]
    clear hq
    cases hs:x.m.seen
    ·skip
     obtain ⟨ua,uc,hu,-⟩:=HS.out.rd.r.u.row
     subst hu
     obtain ⟨pa,pc,hp,-⟩:=HS.out.rd.r.p.row
     subst hp
     go_enter Tryz.func97,Tryz.ntmps97
     go_upto_region 1 with fail
     generalize w.alloc (.cells #[.int .i64 0,.int .i64 0,.int .i64 0] MT)=w0 at *
     generalize w.heap.size=R at *
     have c52:=HS.out.rd.at 52 rfl
     have c49:=HS.out.rd.at 49 rfl
     have HEn:=hid (uendsA_calls HS.out.rd c)
     rw [hn] at HEn
     rw [hs] at c52
     clear hf
     go_wp2_with fail
     refine HEn.out.mono ?_
     rintro e w1 ⟨rfl,hw⟩
     subst hw
     go_wp2_with fail
     have HL1:Hid (x.us.length≤20000):=by show _≤_;omega
     have HL2:Hid (x.ps.length≤20000):=by show _≤_;omega
     have c50:=HS.out.rd.at 50 rfl
     have c51:=HS.out.rd.at 51 rfl
     have HSd:=hid (HS.out.below ((Below.refl _ _).drew))
     go_region_with (first | (go_at_call_of 142 (Value.slice ua x.us.length uc);refine (uenc_calls 6 _ x.us _ ?_ ?_ HL1.out).mono ?_;(first | exact HS9.out.rd.tab.now.2 | exact HSd.out.rd.tab.now.2);(first | exact HS9.out.rd.r.u.row | exact HSd.out.rd.r.u.row);rintro e w9 ⟨rfl,hb9⟩;have HS9:Hid (St E w w9 B g R x tv bpv upv (.slice qa x.m.buf.length qc) (.slice ua x.us.length uc) (.slice pa x.ps.length pc)):=(by first | exact HS9.out.below hb9 | exact HSd.out.below hb9);have c50:=HS9.out.rd.at 50 rfl;have c51:=HS9.out.rd.at 51 rfl;have c27:=HS9.out.rd.at 27 rfl;have c28:=HS9.out.rd.at 28 rfl;have f27:=HS9.out.rd.free 27 (by decide);have f28:=HS9.out.rd.free 28 (by decide)) | (go_at_call_of 142 (Value.slice pa x.ps.length pc);refine (uenc_calls 6 _ x.ps _ ?_ ?_ HL2.out).mono ?_;(first | exact HS9.out.rd.tab.now.2 | exact HSd.out.rd.tab.now.2);(first | exact HS9.out.rd.r.p.row | exact HSd.out.rd.r.p.row);rintro e w9 ⟨rfl,hb9⟩;have HS9:Hid (St E w w9 B g R x tv bpv upv (.slice qa x.m.buf.length qc) (.slice ua x.us.length uc) (.slice pa x.ps.length pc)):=(by first | exact HS9.out.below hb9 | exact HSd.out.below hb9);have c50:=HS9.out.rd.at 50 rfl;have c51:=HS9.out.rd.at 51 rfl;have c27:=HS9.out.rd.at 27 rfl;have c28:=HS9.out.rd.at 28 rfl;have f27:=HS9.out.rd.free 27 (by decide);have f28:=HS9.out.rd.free 28 (by decide)))
     all_goals
      have HS10:Hid (St E w ((w9.setCell ⟨g,27,none⟩ (.string (strOf (encU 6 x.us)))).setCell ⟨g,28,none⟩ (.string (strOf (encU 6 x.ps)))) B g R (x.on (fun m=>{ m with u:={ m.u with usr:=encU 6 x.us,pas:=encU 6 x.ps } })) tv bpv upv (.slice qa x.m.buf.length qc) (.slice ua x.us.length uc) (.slice pa x.ps.length pc)):=HS9.out.flat (x':=x.on (fun m=>{ m with u:={ m.u with usr:=encU 6 x.us,pas:=encU 6 x.ps } })) [(27,.string (strOf (encU 6 x.us))),(28,.string (strOf (encU 6 x.ps)))] rfl
      clear HS9 HS HSd c50 c51 c27 c28 f27 f28 c52 c49 HEn
      go_wp2_with fail
      generalize (w9.setCell ⟨g,27,none⟩ (.string (strOf (encU 6 x.us)))).setCell ⟨g,28,none⟩ (.string (strOf (encU 6 x.ps)))=w10 at *
      have c1:w10.cell? ⟨g,1,none⟩=some (.int .i64 (x.m.p:Int)):=HS10.out.rd.at 1 rfl
      have HS11:=hid (HS10.out.below ((Below.refl _ _).drew))
      go_region_with ((go_at_call 129;refine (utake_calls HS11.out).mono ?_;rintro e w12 ⟨rfl,hT⟩;have HS12:=hid hT.1;have c1:w12.cell? ⟨g,1,none⟩=some (.int .i64 (x.m.p:Int)):=HS12.out.rd.at 1 rfl;have f1:=HS12.out.rd.free 1 (by decide)))
      all_goals
       have HS:=hid (HS12.out.flat (x':={ m:={ x.m with u:={ x.m.u with usr:=encU 6 x.us,pas:=encU 6 x.ps },p:=q,buf:=[] },us:=x.us,ps:=x.ps }) [(1,.int .i64 (q:Int))] rfl)
       clear c1 f1 HS12 HS10 HS11 hT
       go_wp2_with fail
       refine (uagain_calls 10 _).mono ?_
       rintro e w1 ⟨rfl,hb⟩
       replace HS:=hid (HS.out.below hb)
       clear hb
       obtain ⟨d0,e0⟩:=HS.out.res.cell 0 rfl
       obtain ⟨d1,e1⟩:=HS.out.res.cell 1 rfl
       obtain ⟨d2,e2⟩:=HS.out.res.cell 2 rfl
       go_wp2_with fail
       refine bodyPost_ret (by simp [results,Tryz.results97,go_sem,d0,d1,d2];try rfl) rfl ?_
       exact HS.out.told (fun h=>absurd h (by decide))
    ·skip
     have hb0:0 < x.m.buf.length:=Nat.pos_of_ne_zero (fun h=>hf ⟨hs,List.eq_nil_of_length_eq_zero h⟩)
     have hb1:((x.m.buf.length:Int)==0)=false:=beq_eq_false_iff_ne.2 (by omega)
     obtain ⟨ua,uc,hu,-⟩:=HS.out.rd.r.u.row
     subst hu
     obtain ⟨pa,pc,hp,-⟩:=HS.out.rd.r.p.row
     subst hp
     go_enter Tryz.func97,Tryz.ntmps97
     go_upto_region 1 with fail
     generalize w.alloc (.cells #[.int .i64 0,.int .i64 0,.int .i64 0] MT)=w0 at *
     generalize w.heap.size=R at *
     have c52:=HS.out.rd.at 52 rfl
     have c49:=HS.out.rd.at 49 rfl
     have HEn:=hid (uendsA_calls HS.out.rd c)
     rw [hn] at HEn
     rw [hs] at c52
     clear hf
     go_wp2_with fail
     refine HEn.out.mono ?_
     rintro e w1 ⟨rfl,hw⟩
     subst hw
     go_wp2_with fail
     have HL1:Hid (x.us.length≤20000):=by show _≤_;omega
     have HL2:Hid (x.ps.length≤20000):=by show _≤_;omega
     have c50:=HS.out.rd.at 50 rfl
     have c51:=HS.out.rd.at 51 rfl
     have HSd:=hid (HS.out.below ((Below.refl _ _).drew))
     go_region_with (first | (go_at_call_of 142 (Value.slice ua x.us.length uc);refine (uenc_calls 6 _ x.us _ ?_ ?_ HL1.out).mono ?_;(first | exact HS9.out.rd.tab.now.2 | exact HSd.out.rd.tab.now.2);(first | exact HS9.out.rd.r.u.row | exact HSd.out.rd.r.u.row);rintro e w9 ⟨rfl,hb9⟩;have HS9:Hid (St E w w9 B g R x tv bpv upv (.slice qa x.m.buf.length qc) (.slice ua x.us.length uc) (.slice pa x.ps.length pc)):=(by first | exact HS9.out.below hb9 | exact HSd.out.below hb9);have c50:=HS9.out.rd.at 50 rfl;have c51:=HS9.out.rd.at 51 rfl;have c27:=HS9.out.rd.at 27 rfl;have c28:=HS9.out.rd.at 28 rfl;have f27:=HS9.out.rd.free 27 (by decide);have f28:=HS9.out.rd.free 28 (by decide)) | (go_at_call_of 142 (Value.slice pa x.ps.length pc);refine (uenc_calls 6 _ x.ps _ ?_ ?_ HL2.out).mono ?_;(first | exact HS9.out.rd.tab.now.2 | exact HSd.out.rd.tab.now.2);(first | exact HS9.out.rd.r.p.row | exact HSd.out.rd.r.p.row);rintro e w9 ⟨rfl,hb9⟩;have HS9:Hid (St E w w9 B g R x tv bpv upv (.slice qa x.m.buf.length qc) (.slice ua x.us.length uc) (.slice pa x.ps.length pc)):=(by first | exact HS9.out.below hb9 | exact HSd.out.below hb9);have c50:=HS9.out.rd.at 50 rfl;have c51:=HS9.out.rd.at 51 rfl;have c27:=HS9.out.rd.at 27 rfl;have c28:=HS9.out.rd.at 28 rfl;have f27:=HS9.out.rd.free 27 (by decide);have f28:=HS9.out.rd.free 28 (by decide)))
     all_goals
      have HS10:Hid (St E w ((w9.setCell ⟨g,27,none⟩ (.string (strOf (encU 6 x.us)))).setCell ⟨g,28,none⟩ (.string (strOf (encU 6 x.ps)))) B g R (x.on (fun m=>{ m with u:={ m.u with usr:=encU 6 x.us,pas:=encU 6 x.ps } })) tv bpv upv (.slice qa x.m.buf.length qc) (.slice ua x.us.length uc) (.slice pa x.ps.length pc)):=HS9.out.flat (x':=x.on (fun m=>{ m with u:={ m.u with usr:=encU 6 x.us,pas:=encU 6 x.ps } })) [(27,.string (strOf (encU 6 x.us))),(28,.string (strOf (encU 6 x.ps)))] rfl
      clear HS9 HS HSd c50 c51 c27 c28 f27 f28 c52 c49 HEn
      go_wp2_with fail
      generalize (w9.setCell ⟨g,27,none⟩ (.string (strOf (encU 6 x.us)))).setCell ⟨g,28,none⟩ (.string (strOf (encU 6 x.ps)))=w10 at *
      have c1:w10.cell? ⟨g,1,none⟩=some (.int .i64 (x.m.p:Int)):=HS10.out.rd.at 1 rfl
      have HS11:=hid (HS10.out.below ((Below.refl _ _).drew))
      go_region_with ((go_at_call 129;refine (utake_calls HS11.out).mono ?_;rintro e w12 ⟨rfl,hT⟩;have HS12:=hid hT.1;have c1:w12.cell? ⟨g,1,none⟩=some (.int .i64 (x.m.p:Int)):=HS12.out.rd.at 1 rfl;have f1:=HS12.out.rd.free 1 (by decide)))
      all_goals
       have HS:=hid (HS12.out.flat (x':={ m:={ x.m with u:={ x.m.u with usr:=encU 6 x.us,pas:=encU 6 x.ps },p:=q,buf:=[] },us:=x.us,ps:=x.ps }) [(1,.int .i64 (q:Int))] rfl)
       clear c1 f1 HS12 HS10 HS11 hT
       go_wp2_with fail
       refine (uagain_calls 10 _).mono ?_
       rintro e w1 ⟨rfl,hb⟩
       replace HS:=hid (HS.out.below hb)
       clear hb
       obtain ⟨d0,e0⟩:=HS.out.res.cell 0 rfl
       obtain ⟨d1,e1⟩:=HS.out.res.cell 1 rfl
       obtain ⟨d2,e2⟩:=HS.out.res.cell 2 rfl
       go_wp2_with fail
       refine bodyPost_ret (by simp [results,Tryz.results97,go_sem,d0,d1,d2];try rfl) rfl ?_
       exact HS.out.told (fun h=>absurd h (by decide))
 ·rw [if_pos (eq_of_beq h64)]
  go_enter Tryz.func97,Tryz.ntmps97
  go_upto_region 1 with fail
  generalize w.alloc (.cells #[.int .i64 0,.int .i64 0,.int .i64 0] MT)=w0 at *
  generalize w.heap.size=R at *
  go_wp2_with fail
  refine (utakeCred_calls HS.out hl).mono ?_
  rintro e w1 ⟨rfl,uv2,pv2,hT⟩
  replace HS:=hid hT
  clear hT
  go_wp2_with fail
  refine (uon_calls 9 _).mono ?_
  rintro e w1 ⟨rfl,hb⟩
  replace HS:=hid (HS.out.below hb)
  clear hb
  obtain ⟨d0,e0⟩:=HS.out.res.cell 0 rfl
  obtain ⟨d1,e1⟩:=HS.out.res.cell 1 rfl
  obtain ⟨d2,e2⟩:=HS.out.res.cell 2 rfl
  go_wp2_with fail
  refine bodyPost_ret (by simp [results,Tryz.results97,go_sem,d0,d1,d2];try rfl) rfl ?_
  exact HS.out.told (fun h=>absurd h (by decide))
end Go.Proofs.YtigfgloenjoeoaaGreatDoor
