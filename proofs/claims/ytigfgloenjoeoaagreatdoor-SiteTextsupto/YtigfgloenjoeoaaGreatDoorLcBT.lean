import Derived.Test.YtigfgloenjoeoaaGreatDoorLcBS
import Derived.Test.YtigfgloenjoeoaaGreatDoorLcAE
import Derived.Shelf.SlicesE.DeleteFunc
set_option linter.unusedVariables false
set_option linter.unusedSimpArgs false
set_option maxRecDepth 20000
set_option maxHeartbeats 16000000
namespace Go.Proofs.YtigfgloenjoeoaaGreatDoor
open Go.RowKit
theorem ufragment_calls {E:Prop} {w:World} {B g:Nat} {x:RdP} {tv bpv upv bv uv pv:Value} (h:Rd E w B g x tv bpv upv bv uv pv) (c:Int) (hb:x.m.buf.length≤20000) :
 Calls Tryz.prog 104 #[.pointer (some ⟨g,0,none⟩),.int .i64 c] w fun e w'=>MP B g (fragP x c) w e w':=by
 have HS:=hid (St.new h)
 unfold fragP
 clear h
 cases h1:c==-1
 ·have h2:=beq_eq_false_iff_ne.1 h1
  rw [if_pos h2]
  have h3:(c != -1)=true:=by rw [bne,h1];rfl
  go_enter Tryz.func104,Tryz.ntmps104
  go_upto_region 1 with fail
  generalize w.alloc (.cells #[.int .i64 0,.int .i64 0,.int .i64 0] MT)=w0 at *
  generalize w.heap.size=R at *
  have c49:=HS.out.rd.at 49 rfl
  have f49:=HS.out.rd.free 49 (by decide)
  have HN:=World.new_ne _ _ c49
  obtain ⟨v5,w5,hr5,ho5,hg5⟩:=push_int HS.out.rd.r.b c (by omega) HS.out.rd.bs
  obtain ⟨a5,q5,rfl,-⟩:=id ho5.row
  have HG5:=HS.out.gather hg5 ho5
  rw [show (x.m.buf++[c]).length=x.m.buf.length+1 by simp] at HG5 hr5
  have c5:=HG5.1
  have f5:=HG5.2.1
  replace HS:=hid HG5.2.2
  clear HG5 hg5 ho5 HN
  go_wp2_with (at_builtin;refine wpList_append_run hr5 rfl _ _ rfl rfl rfl rfl ?_)
  clear hr5 c5 f5 c49 f49
  refine (uon_calls 16 _).mono ?_
  rintro e w1 ⟨rfl,hb⟩
  replace HS:=hid (HS.out.below hb)
  clear hb
  obtain ⟨d0,e0⟩:=HS.out.res.cell 0 rfl
  obtain ⟨d1,e1⟩:=HS.out.res.cell 1 rfl
  obtain ⟨d2,e2⟩:=HS.out.res.cell 2 rfl
  go_wp2_with fail
  refine bodyPost_ret (by simp [results,Tryz.results104,go_sem,d0,d1,d2];try rfl) rfl ?_
  exact HS.out.told (fun h=>absurd h (by decide))
 ·have h2:=eq_of_beq h1
  rw [if_neg (fun h=>h h2)]
  have h3:(c != -1)=false:=by rw [bne,h1];rfl
  go_enter Tryz.func104,Tryz.ntmps104
  go_upto_region 1 with fail
  generalize w.alloc (.cells #[.int .i64 0,.int .i64 0,.int .i64 0] MT)=w0 at *
  generalize w.heap.size=R at *
  go_wp2_with fail
  refine (utake_calls HS.out).mono ?_
  rintro e w1 ⟨rfl,hT⟩
  replace HS:=hid hT.1
  have HRw:=hid hT.2.1.row
  clear hT
  go_wp2_with fail
  refine (uenc_calls 2 _ _ _ HS.out.rd.tab.now.2 HRw.out hb).mono ?_
  rintro e w2 ⟨rfl,hb2⟩
  replace HS:=hid (HS.out.below hb2)
  clear hb2 HRw
  have c48:=HS.out.rd.at 48 rfl
  have f48:=HS.out.rd.free 48 (by decide)
  go_wp2_with fail
  replace HS:=hid (HS.out.flat (x':=x.on fragU) [(48,.string (strOf (encU 2 x.m.buf)))] rfl)
  refine (uon_calls 17 _).mono ?_
  rintro e w1 ⟨rfl,hb⟩
  replace HS:=hid (HS.out.below hb)
  clear hb
  obtain ⟨d0,e0⟩:=HS.out.res.cell 0 rfl
  obtain ⟨d1,e1⟩:=HS.out.res.cell 1 rfl
  obtain ⟨d2,e2⟩:=HS.out.res.cell 2 rfl
  go_wp2_with fail
  refine bodyPost_ret (by simp [results,Tryz.results104,go_sem,d0,d1,d2];try rfl) rfl ?_
  exact HS.out.told (fun h=>absurd h (by decide))
theorem udark_calls {E:Prop} {w:World} {B g:Nat} {x:RdP} {tv bpv upv bv uv pv:Value} (h:Rd E w B g x tv bpv upv bv uv pv) (c:Int) (hb:x.m.buf.length≤20000) :
 Calls Tryz.prog 102 #[.pointer (some ⟨g,0,none⟩),.int .i64 c] w fun e w'=>MP B g (darkP x c) w e w':=by
 have HS:=hid (St.new h)
 unfold darkP
 clear h
 have HEn:=hid (fun w=>uends_calls c w)
 cases h1:endsB c
 ·rw [if_pos rfl]
  rw [h1] at HEn
  go_enter Tryz.func102,Tryz.ntmps102
  go_upto_region 1 with fail
  generalize w.alloc (.cells #[.int .i64 0,.int .i64 0,.int .i64 0] MT)=w0 at *
  generalize w.heap.size=R at *
  have c49:=HS.out.rd.at 49 rfl
  have f49:=HS.out.rd.free 49 (by decide)
  go_wp2_with fail
  refine (HEn.out _).mono ?_
  rintro e w1 ⟨rfl,rfl⟩
  have HN:=World.new_ne _ _ c49
  obtain ⟨v5,w5,hr5,ho5,hg5⟩:=push_int HS.out.rd.r.b c (by omega) HS.out.rd.bs
  obtain ⟨a5,q5,rfl,-⟩:=id ho5.row
  have HG5:=HS.out.gather hg5 ho5
  rw [show (x.m.buf++[c]).length=x.m.buf.length+1 by simp] at HG5 hr5
  have c5:=HG5.1
  have f5:=HG5.2.1
  replace HS:=hid HG5.2.2
  clear HG5 hg5 ho5 HN
  go_wp2_with (at_builtin;refine wpList_append_run hr5 rfl _ _ rfl rfl rfl rfl ?_)
  clear hr5 c5 f5 c49 f49
  refine (uon_calls 14 _).mono ?_
  rintro e w1 ⟨rfl,hb⟩
  replace HS:=hid (HS.out.below hb)
  clear hb
  obtain ⟨d0,e0⟩:=HS.out.res.cell 0 rfl
  obtain ⟨d1,e1⟩:=HS.out.res.cell 1 rfl
  obtain ⟨d2,e2⟩:=HS.out.res.cell 2 rfl
  go_wp2_with fail
  refine bodyPost_ret (by simp [results,Tryz.results102,go_sem,d0,d1,d2];try rfl) rfl ?_
  exact HS.out.told (fun h=>absurd h (by decide))
 ·rw [if_neg (by decide)]
  rw [h1] at HEn
  go_enter Tryz.func102,Tryz.ntmps102
  go_upto_region 1 with fail
  generalize w.alloc (.cells #[.int .i64 0,.int .i64 0,.int .i64 0] MT)=w0 at *
  generalize w.heap.size=R at *
  go_wp2_with fail
  refine (HEn.out _).mono ?_
  rintro e w1 ⟨rfl,rfl⟩
  go_wp2_with fail
  refine (utake_calls HS.out).mono ?_
  rintro e w1 ⟨rfl,hT⟩
  replace HS:=hid hT.1
  have HRw:=hid hT.2.1.row
  clear hT
  go_wp2_with fail
  refine (uenc_calls 1 _ _ _ HS.out.rd.tab.now.2 HRw.out hb).mono ?_
  rintro e w2 ⟨rfl,hb2⟩
  replace HS:=hid (HS.out.below hb2)
  clear hb2 HRw
  have c43:=HS.out.rd.at 43 rfl
  have f43:=HS.out.rd.free 43 (by decide)
  go_wp2_with fail
  replace HS:=hid (HS.out.flat (x':=x.on (fun m=>{ m with buf:=[],u:={ m.u with txt:=encU 1 m.buf } })) [(43,.string (strOf (encU 1 x.m.buf)))] rfl)
  refine (uleave_calls HS.out.rd c).mono ?_
  rintro e w1 ⟨rfl,hb,hk,hr⟩
  have HR1:=HS.out.res.kept (hk _ _ MT _ (Or.inl rfl) HS.out.res)
  obtain ⟨d0,e0⟩:=HR1.cell 0 rfl
  obtain ⟨d1,e1⟩:=HR1.cell 1 rfl
  obtain ⟨d2,e2⟩:=HR1.cell 2 rfl
  have HP:=hid (fun a b c=>St.pass HS.out hb hk hr (a:=a) (b:=b) (c:=c))
  clear hb hk hr HR1
  go_wp2_with fail
  refine bodyPost_ret (by simp [results,Tryz.results102,go_sem,d0,d1,d2];try rfl) rfl ?_
  exact HP.out _ _ _
theorem uquery_calls {E:Prop} {w:World} {B g:Nat} {x:RdP} {tv bpv upv bv uv pv:Value} (h:Rd E w B g x tv bpv upv bv uv pv) (c:Int) (hb:x.m.buf.length≤20000) :
 Calls Tryz.prog 103 #[.pointer (some ⟨g,0,none⟩),.int .i64 c] w fun e w'=>MP B g (queryP x c) w e w':=by
 have HS:=hid (St.new h)
 unfold queryP
 clear h
 cases h1:c==35
 ·cases h2:c==-1
  ·rw [if_pos ⟨beq_eq_false_iff_ne.1 h1,beq_eq_false_iff_ne.1 h2⟩]
   have h3:(c != 35)=true:=by rw [bne,h1];rfl
   have h4:(c != -1)=true:=by rw [bne,h2];rfl
   go_enter Tryz.func103,Tryz.ntmps103
   go_upto_region 1 with fail
   generalize w.alloc (.cells #[.int .i64 0,.int .i64 0,.int .i64 0] MT)=w0 at *
   generalize w.heap.size=R at *
   have c49:=HS.out.rd.at 49 rfl
   have f49:=HS.out.rd.free 49 (by decide)
   have HN:=World.new_ne _ _ c49
   obtain ⟨v5,w5,hr5,ho5,hg5⟩:=push_int HS.out.rd.r.b c (by omega) HS.out.rd.bs
   obtain ⟨a5,q5,rfl,-⟩:=id ho5.row
   have HG5:=HS.out.gather hg5 ho5
   rw [show (x.m.buf++[c]).length=x.m.buf.length+1 by simp] at HG5 hr5
   have c5:=HG5.1
   have f5:=HG5.2.1
   replace HS:=hid HG5.2.2
   clear HG5 hg5 ho5 HN
   go_wp2_with (at_builtin;refine wpList_append_run hr5 rfl _ _ rfl rfl rfl rfl ?_)
   clear hr5 c5 f5 c49 f49
   refine (uon_calls 15 _).mono ?_
   rintro e w1 ⟨rfl,hb⟩
   replace HS:=hid (HS.out.below hb)
   clear hb
   obtain ⟨d0,e0⟩:=HS.out.res.cell 0 rfl
   obtain ⟨d1,e1⟩:=HS.out.res.cell 1 rfl
   obtain ⟨d2,e2⟩:=HS.out.res.cell 2 rfl
   go_wp2_with fail
   refine bodyPost_ret (by simp [results,Tryz.results103,go_sem,d0,d1,d2];try rfl) rfl ?_
   exact HS.out.told (fun h=>absurd h (by decide))
  ·rw [if_neg (fun h=>h.2 (eq_of_beq h2))]
   have h3:(c != 35)=true:=by rw [bne,h1];rfl
   have h4:(c != -1)=false:=by rw [bne,h2];rfl
   cases hsp:spM x.m
   ·skip
    go_enter Tryz.func103,Tryz.ntmps103
    go_upto_region 1 with fail
    generalize w.alloc (.cells #[.int .i64 0,.int .i64 0,.int .i64 0] MT)=w0 at *
    generalize w.heap.size=R at *
    have HSp:=hid (uspecial_calls HS.out.rd)
    rw [hsp] at HSp
    go_wp2_with fail
    refine (HSp.out).mono ?_
    rintro e w1 ⟨rfl,rfl⟩
    go_wp2_with fail
    refine (utake_calls HS.out).mono ?_
    rintro e w1 ⟨rfl,hT⟩
    replace HS:=hid hT.1
    have HRw:=hid hT.2.1.row
    clear hT
    go_wp2_with fail
    refine (uenc_calls 3 _ _ _ HS.out.rd.tab.now.2 HRw.out hb).mono ?_
    rintro e w2 ⟨rfl,hb2⟩
    replace HS:=hid (HS.out.below hb2)
    clear hb2 HRw
    have c46:=HS.out.rd.at 46 rfl
    have f46:=HS.out.rd.free 46 (by decide)
    go_wp2_with fail
    replace HS:=hid (HS.out.flat (x':=x.on queryU) [(46,.string (strOf (encU 3 x.m.buf)))] (by simp only [queryU,RdP.on,hsp];rfl))
    refine (uleave_calls HS.out.rd c).mono ?_
    rintro e w1 ⟨rfl,hb,hk,hr⟩
    have HR1:=HS.out.res.kept (hk _ _ MT _ (Or.inl rfl) HS.out.res)
    obtain ⟨d0,e0⟩:=HR1.cell 0 rfl
    obtain ⟨d1,e1⟩:=HR1.cell 1 rfl
    obtain ⟨d2,e2⟩:=HR1.cell 2 rfl
    have HP:=hid (fun a b c=>St.pass HS.out hb hk hr (a:=a) (b:=b) (c:=c))
    clear hb hk hr HR1
    go_wp2_with fail
    refine bodyPost_ret (by simp [results,Tryz.results103,go_sem,d0,d1,d2];try rfl) rfl ?_
    exact HP.out _ _ _
   ·skip
    go_enter Tryz.func103,Tryz.ntmps103
    go_upto_region 1 with fail
    generalize w.alloc (.cells #[.int .i64 0,.int .i64 0,.int .i64 0] MT)=w0 at *
    generalize w.heap.size=R at *
    have HSp:=hid (uspecial_calls HS.out.rd)
    rw [hsp] at HSp
    go_wp2_with fail
    refine (HSp.out).mono ?_
    rintro e w1 ⟨rfl,rfl⟩
    go_wp2_with fail
    refine (utake_calls HS.out).mono ?_
    rintro e w1 ⟨rfl,hT⟩
    replace HS:=hid hT.1
    have HRw:=hid hT.2.1.row
    clear hT
    go_wp2_with fail
    refine (uenc_calls 4 _ _ _ HS.out.rd.tab.now.2 HRw.out hb).mono ?_
    rintro e w2 ⟨rfl,hb2⟩
    replace HS:=hid (HS.out.below hb2)
    clear hb2 HRw
    have c46:=HS.out.rd.at 46 rfl
    have f46:=HS.out.rd.free 46 (by decide)
    go_wp2_with fail
    replace HS:=hid (HS.out.flat (x':=x.on queryU) [(46,.string (strOf (encU 4 x.m.buf)))] (by simp only [queryU,RdP.on,hsp];rfl))
    refine (uleave_calls HS.out.rd c).mono ?_
    rintro e w1 ⟨rfl,hb,hk,hr⟩
    have HR1:=HS.out.res.kept (hk _ _ MT _ (Or.inl rfl) HS.out.res)
    obtain ⟨d0,e0⟩:=HR1.cell 0 rfl
    obtain ⟨d1,e1⟩:=HR1.cell 1 rfl
    obtain ⟨d2,e2⟩:=HR1.cell 2 rfl
    have HP:=hid (fun a b c=>St.pass HS.out hb hk hr (a:=a) (b:=b) (c:=c))
    clear hb hk hr HR1
    go_wp2_with fail
    refine bodyPost_ret (by simp [results,Tryz.results103,go_sem,d0,d1,d2];try rfl) rfl ?_
    exact HP.out _ _ _
 ·rw [if_neg (fun h=>h.1 (eq_of_beq h1))]
  have h3:(c != 35)=false:=by rw [bne,h1];rfl
  cases hsp:spM x.m
  ·skip
   go_enter Tryz.func103,Tryz.ntmps103
   go_upto_region 1 with fail
   generalize w.alloc (.cells #[.int .i64 0,.int .i64 0,.int .i64 0] MT)=w0 at *
   generalize w.heap.size=R at *
   have HSp:=hid (uspecial_calls HS.out.rd)
   rw [hsp] at HSp
   go_wp2_with fail
   refine (HSp.out).mono ?_
   rintro e w1 ⟨rfl,rfl⟩
   go_wp2_with fail
   refine (utake_calls HS.out).mono ?_
   rintro e w1 ⟨rfl,hT⟩
   replace HS:=hid hT.1
   have HRw:=hid hT.2.1.row
   clear hT
   go_wp2_with fail
   refine (uenc_calls 3 _ _ _ HS.out.rd.tab.now.2 HRw.out hb).mono ?_
   rintro e w2 ⟨rfl,hb2⟩
   replace HS:=hid (HS.out.below hb2)
   clear hb2 HRw
   have c46:=HS.out.rd.at 46 rfl
   have f46:=HS.out.rd.free 46 (by decide)
   go_wp2_with fail
   replace HS:=hid (HS.out.flat (x':=x.on queryU) [(46,.string (strOf (encU 3 x.m.buf)))] (by simp only [queryU,RdP.on,hsp];rfl))
   refine (uleave_calls HS.out.rd c).mono ?_
   rintro e w1 ⟨rfl,hb,hk,hr⟩
   have HR1:=HS.out.res.kept (hk _ _ MT _ (Or.inl rfl) HS.out.res)
   obtain ⟨d0,e0⟩:=HR1.cell 0 rfl
   obtain ⟨d1,e1⟩:=HR1.cell 1 rfl
   obtain ⟨d2,e2⟩:=HR1.cell 2 rfl
   have HP:=hid (fun a b c=>St.pass HS.out hb hk hr (a:=a) (b:=b) (c:=c))
   clear hb hk hr HR1
   go_wp2_with fail
   refine bodyPost_ret (by simp [results,Tryz.results103,go_sem,d0,d1,d2];try rfl) rfl ?_
   exact HP.out _ _ _
  ·skip
   go_enter Tryz.func103,Tryz.ntmps103
   go_upto_region 1 with fail
   generalize w.alloc (.cells #[.int .i64 0,.int .i64 0,.int .i64 0] MT)=w0 at *
   generalize w.heap.size=R at *
   have HSp:=hid (uspecial_calls HS.out.rd)
   rw [hsp] at HSp
   go_wp2_with fail
   refine (HSp.out).mono ?_
   rintro e w1 ⟨rfl,rfl⟩
   go_wp2_with fail
   refine (utake_calls HS.out).mono ?_
   rintro e w1 ⟨rfl,hT⟩
   replace HS:=hid hT.1
   have HRw:=hid hT.2.1.row
   clear hT
   go_wp2_with fail
   refine (uenc_calls 4 _ _ _ HS.out.rd.tab.now.2 HRw.out hb).mono ?_
   rintro e w2 ⟨rfl,hb2⟩
   replace HS:=hid (HS.out.below hb2)
   clear hb2 HRw
   have c46:=HS.out.rd.at 46 rfl
   have f46:=HS.out.rd.free 46 (by decide)
   go_wp2_with fail
   replace HS:=hid (HS.out.flat (x':=x.on queryU) [(46,.string (strOf (encU 4 x.m.buf)))] (by simp only [queryU,RdP.on,hsp];rfl))
   refine (uleave_calls HS.out.rd c).mono ?_
   rintro e w1 ⟨rfl,hb,hk,hr⟩
   have HR1:=HS.out.res.kept (hk _ _ MT _ (Or.inl rfl) HS.out.res)
   obtain ⟨d0,e0⟩:=HR1.cell 0 rfl
   obtain ⟨d1,e1⟩:=HR1.cell 1 rfl
   obtain ⟨d2,e2⟩:=HR1.cell 2 rfl
   have HP:=hid (fun a b c=>St.pass HS.out hb hk hr (a:=a) (b:=b) (c:=c))
   clear hb hk hr HR1
   go_wp2_with fail
   refine bodyPost_ret (by simp [results,Tryz.results103,go_sem,d0,d1,d2];try rfl) rfl ?_
   exact HP.out _ _ _
theorem urelative_calls {E:Prop} {w:World} {B g:Nat} {x:RdP} {tv bpv upv bv uv pv:Value} (h:Rd E w B g x tv bpv upv bv uv pv) (c:Int) (hE:E) (hq:x.m.base.path.length≤100000) :
 Calls Tryz.prog 93 #[.pointer (some ⟨g,0,none⟩),.int .i64 c] w fun e w'=>MP B g (relativeP x c) w e w':=by
 have HS:=hid (St.new h)
 unfold relativeP
 clear h
 obtain ⟨ba,bc,hbv,-⟩:=(HS.out.rd.r.e hE).2.row
 subst hbv
 cases hs:slashM (relSchM x.m) c
 ·rw [if_neg (by decide)]
  cases hn:endsB c
  ·rw [if_neg (by decide)]
   go_enter Tryz.func93,Tryz.ntmps93
   go_upto_region 1 with fail
   generalize w.alloc (.cells #[.int .i64 0,.int .i64 0,.int .i64 0] MT)=w0 at *
   generalize w.heap.size=R at *
   have c2:=HS.out.rd.at 2 rfl
   have c26:=HS.out.rd.at 26 rfl
   have f26:=HS.out.rd.free 26 (by decide)
   go_wp2_with fail
   replace HS:=hid (HS.out.flat (x':=x.on relSchM) [(26,.string (strOf x.m.base.sch))] rfl)
   clear c2 c26 f26
   have HSl:=hid (uslash_calls HS.out.rd c)
   rw [show slashM (x.on relSchM).m c=slashM (relSchM x.m) c from rfl,hs] at HSl
   refine HSl.out.mono ?_
   rintro e w1 ⟨rfl,hw⟩
   rw [← hw] at HS
   clear hw HSl
   go_wp2_with fail
   refine (utakeAuth_calls HS.out).mono ?_
   rintro e w2 ⟨rfl,hT⟩
   replace HS:=hid hT
   clear hT
   have c20:=HS.out.rd.at 20 rfl
   have c44:=HS.out.rd.at 44 rfl
   have f44:=HS.out.rd.free 44 (by decide)
   have HW:=hid (St.path HS.out (HS.out.rd.r.e hE).2)
   go_wp2_with fail
   replace HS:=HW
   clear HW c20 c44 f44
   generalize w2.setCell ⟨g,44,none⟩ (.slice ba x.m.base.path.length bc)=w3 at *
   have c21:w3.cell? ⟨g,21,none⟩=some (.bool x.m.base.hasQ):=HS.out.rd.at 21 rfl
   have c22:w3.cell? ⟨g,22,none⟩=some (.string (strOf x.m.base.qry)):=HS.out.rd.at 22 rfl
   have c45:=HS.out.rd.at 45 rfl
   have c46:=HS.out.rd.at 46 rfl
   have f45:=HS.out.rd.free 45 (by decide)
   have f46:=HS.out.rd.free 46 (by decide)
   go_region
   replace HS:Hid (St False w (((w3.setCell ⟨g,45,none⟩ (.bool x.m.base.hasQ)).setCell ⟨g,46,none⟩ (.string (strOf x.m.base.qry))).drew) B g R (x.on (fun m=>baseM (relSchM m))) tv (.slice ba x.m.base.path.length bc) (.slice ba x.m.base.path.length bc) bv uv pv):=(HS.out.flat (x':=x.on (fun m=>baseM (relSchM m))) [(45,.bool x.m.base.hasQ),(46,.string (strOf x.m.base.qry))] rfl).below ((Below.refl _ _).drew)
   clear c21 c22 c45 c46 f45 f46
   generalize ((w3.setCell ⟨g,45,none⟩ (.bool x.m.base.hasQ)).setCell ⟨g,46,none⟩ (.string (strOf x.m.base.qry))).drew=w4 at *
   have HEn:=hid (uends_calls c w4)
   rw [hn] at HEn
   have c45:=HS.out.rd.at 45 rfl
   have c46:=HS.out.rd.at 46 rfl
   have f45:=HS.out.rd.free 45 (by decide)
   have f46:=HS.out.rd.free 46 (by decide)
   go_wp2_with fail
   refine HEn.out.mono ?_
   rintro e w5 ⟨rfl,hw⟩
   subst hw
   go_wp2_with fail
   replace HS:=hid (HS.out.flat (x':=x.on (fun m=>noQueryM (baseM (relSchM m)))) [(45,.bool false),(46,.string (strOf []))] rfl)
   refine (ushorten_calls HS.out hq).mono ?_
   rintro e w6 ⟨rfl,upv2,hT⟩
   replace HS:=hid hT
   clear hT
   go_wp2_with fail
   refine (uagain_calls 13 _).mono ?_
   rintro e w1 ⟨rfl,hb⟩
   replace HS:=hid (HS.out.below hb)
   clear hb
   obtain ⟨d0,e0⟩:=HS.out.res.cell 0 rfl
   obtain ⟨d1,e1⟩:=HS.out.res.cell 1 rfl
   obtain ⟨d2,e2⟩:=HS.out.res.cell 2 rfl
   go_wp2_with fail
   refine bodyPost_ret (by simp [results,Tryz.results93,go_sem,d0,d1,d2];try rfl) rfl ?_
   exact HS.out.told (fun h=>absurd h (by decide))
  ·rw [if_pos (by rfl)]
   go_enter Tryz.func93,Tryz.ntmps93
   go_upto_region 1 with fail
   generalize w.alloc (.cells #[.int .i64 0,.int .i64 0,.int .i64 0] MT)=w0 at *
   generalize w.heap.size=R at *
   have c2:=HS.out.rd.at 2 rfl
   have c26:=HS.out.rd.at 26 rfl
   have f26:=HS.out.rd.free 26 (by decide)
   go_wp2_with fail
   replace HS:=hid (HS.out.flat (x':=x.on relSchM) [(26,.string (strOf x.m.base.sch))] rfl)
   clear c2 c26 f26
   have HSl:=hid (uslash_calls HS.out.rd c)
   rw [show slashM (x.on relSchM).m c=slashM (relSchM x.m) c from rfl,hs] at HSl
   refine HSl.out.mono ?_
   rintro e w1 ⟨rfl,hw⟩
   rw [← hw] at HS
   clear hw HSl
   go_wp2_with fail
   refine (utakeAuth_calls HS.out).mono ?_
   rintro e w2 ⟨rfl,hT⟩
   replace HS:=hid hT
   clear hT
   have c20:=HS.out.rd.at 20 rfl
   have c44:=HS.out.rd.at 44 rfl
   have f44:=HS.out.rd.free 44 (by decide)
   have HW:=hid (St.path HS.out (HS.out.rd.r.e hE).2)
   go_wp2_with fail
   replace HS:=HW
   clear HW c20 c44 f44
   generalize w2.setCell ⟨g,44,none⟩ (.slice ba x.m.base.path.length bc)=w3 at *
   have c21:w3.cell? ⟨g,21,none⟩=some (.bool x.m.base.hasQ):=HS.out.rd.at 21 rfl
   have c22:w3.cell? ⟨g,22,none⟩=some (.string (strOf x.m.base.qry)):=HS.out.rd.at 22 rfl
   have c45:=HS.out.rd.at 45 rfl
   have c46:=HS.out.rd.at 46 rfl
   have f45:=HS.out.rd.free 45 (by decide)
   have f46:=HS.out.rd.free 46 (by decide)
   go_region
   replace HS:Hid (St False w (((w3.setCell ⟨g,45,none⟩ (.bool x.m.base.hasQ)).setCell ⟨g,46,none⟩ (.string (strOf x.m.base.qry))).drew) B g R (x.on (fun m=>baseM (relSchM m))) tv (.slice ba x.m.base.path.length bc) (.slice ba x.m.base.path.length bc) bv uv pv):=(HS.out.flat (x':=x.on (fun m=>baseM (relSchM m))) [(45,.bool x.m.base.hasQ),(46,.string (strOf x.m.base.qry))] rfl).below ((Below.refl _ _).drew)
   clear c21 c22 c45 c46 f45 f46
   generalize ((w3.setCell ⟨g,45,none⟩ (.bool x.m.base.hasQ)).setCell ⟨g,46,none⟩ (.string (strOf x.m.base.qry))).drew=w4 at *
   have HEn:=hid (uends_calls c w4)
   rw [hn] at HEn
   go_wp2_with fail
   refine HEn.out.mono ?_
   rintro e w5 ⟨rfl,hw⟩
   subst hw
   go_wp2_with fail
   refine (uleave_calls HS.out.rd c).mono ?_
   rintro e w1 ⟨rfl,hb,hk,hr⟩
   have HR1:=HS.out.res.kept (hk _ _ MT _ (Or.inl rfl) HS.out.res)
   obtain ⟨d0,e0⟩:=HR1.cell 0 rfl
   obtain ⟨d1,e1⟩:=HR1.cell 1 rfl
   obtain ⟨d2,e2⟩:=HR1.cell 2 rfl
   have HP:=hid (fun a b c=>St.pass HS.out hb hk hr (a:=a) (b:=b) (c:=c))
   clear hb hk hr HR1
   go_wp2_with fail
   refine bodyPost_ret (by simp [results,Tryz.results93,go_sem,d0,d1,d2];try rfl) rfl ?_
   exact HP.out _ _ _
 ·rw [if_pos rfl]
  go_enter Tryz.func93,Tryz.ntmps93
  go_upto_region 1 with fail
  generalize w.alloc (.cells #[.int .i64 0,.int .i64 0,.int .i64 0] MT)=w0 at *
  generalize w.heap.size=R at *
  have c2:=HS.out.rd.at 2 rfl
  have c26:=HS.out.rd.at 26 rfl
  have f26:=HS.out.rd.free 26 (by decide)
  go_wp2_with fail
  replace HS:=hid (HS.out.flat (x':=x.on relSchM) [(26,.string (strOf x.m.base.sch))] rfl)
  clear c2 c26 f26
  have HSl:=hid (uslash_calls HS.out.rd c)
  rw [show slashM (x.on relSchM).m c=slashM (relSchM x.m) c from rfl,hs] at HSl
  refine HSl.out.mono ?_
  rintro e w1 ⟨rfl,hw⟩
  rw [← hw] at HS
  clear hw HSl
  go_wp2_with fail
  refine (uon_calls 6 _).mono ?_
  rintro e w1 ⟨rfl,hb⟩
  replace HS:=hid (HS.out.below hb)
  clear hb
  obtain ⟨d0,e0⟩:=HS.out.res.cell 0 rfl
  obtain ⟨d1,e1⟩:=HS.out.res.cell 1 rfl
  obtain ⟨d2,e2⟩:=HS.out.res.cell 2 rfl
  go_wp2_with fail
  refine bodyPost_ret (by simp [results,Tryz.results93,go_sem,d0,d1,d2];try rfl) rfl ?_
  exact HS.out.told (fun h=>absurd h (by decide))
theorem unoScheme_calls {E:Prop} {w:World} {B g:Nat} {x:RdP} {tv bpv upv bv uv pv:Value} (h:Rd E w B g x tv bpv upv bv uv pv) (c:Int) (hE:E) :
 Calls Tryz.prog 90 #[.pointer (some ⟨g,0,none⟩),.int .i64 c] w fun e w'=>MP B g (noSchemeP x c) w e w':=by
 have HS:=hid (St.new h)
 unfold noSchemeP
 clear h
 cases hh:x.m.has
 ·rw [if_pos (by rfl)]
  go_enter Tryz.func90,Tryz.ntmps90
  go_upto_region 1 with fail
  generalize w.alloc (.cells #[.int .i64 0,.int .i64 0,.int .i64 0] MT)=w0 at *
  generalize w.heap.size=R at *
  have c25:=HS.out.rd.at 25 rfl
  have c18:=HS.out.rd.at 18 rfl
  rw [hh] at c25
  go_wp2_with fail
  refine (ufail_calls 4 _).mono ?_
  rintro e w1 ⟨rfl,hb⟩
  replace HS:=hid (HS.out.below hb)
  clear hb
  obtain ⟨d0,e0⟩:=HS.out.res.cell 0 rfl
  obtain ⟨d1,e1⟩:=HS.out.res.cell 1 rfl
  obtain ⟨d2,e2⟩:=HS.out.res.cell 2 rfl
  go_wp2_with fail
  refine bodyPost_ret (by simp [results,Tryz.results90,go_sem,d0,d1,d2];try rfl) rfl ?_
  exact HS.out.fails (by decide)
 ·rw [Bool.not_true,Bool.false_or]
  cases hd:x.m.base.dark
  ·rw [Bool.false_and,if_neg (by decide),if_neg (by decide)]
   go_enter Tryz.func90,Tryz.ntmps90
   go_upto_region 1 with fail
   generalize w.alloc (.cells #[.int .i64 0,.int .i64 0,.int .i64 0] MT)=w0 at *
   generalize w.heap.size=R at *
   have c25:=HS.out.rd.at 25 rfl
   have c18:=HS.out.rd.at 18 rfl
   rw [hh] at c25
   rw [hd] at c18
   go_wp2_with fail
   refine (uagain_calls 5 _).mono ?_
   rintro e w1 ⟨rfl,hb⟩
   replace HS:=hid (HS.out.below hb)
   clear hb
   obtain ⟨d0,e0⟩:=HS.out.res.cell 0 rfl
   obtain ⟨d1,e1⟩:=HS.out.res.cell 1 rfl
   obtain ⟨d2,e2⟩:=HS.out.res.cell 2 rfl
   go_wp2_with fail
   refine bodyPost_ret (by simp [results,Tryz.results90,go_sem,d0,d1,d2];try rfl) rfl ?_
   exact HS.out.told (fun _=>hE)
  ·rw [Bool.true_and,if_pos rfl]
   cases h35:c==35
   ·rw [if_pos (by rw [bne,h35];rfl)]
    go_enter Tryz.func90,Tryz.ntmps90
    go_upto_region 1 with fail
    generalize w.alloc (.cells #[.int .i64 0,.int .i64 0,.int .i64 0] MT)=w0 at *
    generalize w.heap.size=R at *
    have c25:=HS.out.rd.at 25 rfl
    have c18:=HS.out.rd.at 18 rfl
    rw [hh] at c25
    rw [hd] at c18
    have h36:(c != 35)=true:=by rw [bne,h35];rfl
    go_wp2_with fail
    refine (ufail_calls 4 _).mono ?_
    rintro e w1 ⟨rfl,hb⟩
    replace HS:=hid (HS.out.below hb)
    clear hb
    obtain ⟨d0,e0⟩:=HS.out.res.cell 0 rfl
    obtain ⟨d1,e1⟩:=HS.out.res.cell 1 rfl
    obtain ⟨d2,e2⟩:=HS.out.res.cell 2 rfl
    go_wp2_with fail
    refine bodyPost_ret (by simp [results,Tryz.results90,go_sem,d0,d1,d2];try rfl) rfl ?_
    exact HS.out.fails (by decide)
   ·rw [if_neg (by rw [bne,h35];decide)]
    obtain ⟨ba,bc,hbv,-⟩:=(HS.out.rd.r.e hE).2.row
    subst hbv
    go_enter Tryz.func90,Tryz.ntmps90
    go_upto_region 1 with fail
    generalize w.alloc (.cells #[.int .i64 0,.int .i64 0,.int .i64 0] MT)=w0 at *
    generalize w.heap.size=R at *
    have c25:=HS.out.rd.at 25 rfl
    have c18:=HS.out.rd.at 18 rfl
    rw [hh] at c25
    rw [hd] at c18
    have h36:(c != 35)=false:=by rw [bne,h35];rfl
    have HL:=hid HS.out.rd.base_range
    have HT:=hid HS.out.rd.u_there
    have HW:=hid (HS.out.whole hE)
    have HO:=hid (all_oneCell_toArray (List.all_eq_true.1 (show (urlC x.m.base (.slice ba x.m.base.path.length bc)).all (·.oneCell')=true from rfl)))
    go_upto_region 5 with (first | refine wpList_load_mid rfl 29 _ rfl g 2 rfl _ _ HL.out Tryz.underlying29 rfl info_url ?_ | refine wpList_store_mid rfl 29 _ _ rfl g 26 (urlC x.m.base (.slice ba x.m.base.path.length bc)).toArray rfl rfl HT.out info_url HO.out ?_)
    replace HS:=HW
    clear HW HL HT HO c25 c18
    try simp only [List.toList_toArray]
    generalize w0.setCells g 26 (urlC x.m.base (.slice ba x.m.base.path.length bc))=w1 at *
    go_wp2_with fail
    refine (uleave_calls HS.out.rd c).mono ?_
    rintro e w1 ⟨rfl,hb,hk,hr⟩
    have HR1:=HS.out.res.kept (hk _ _ MT _ (Or.inl rfl) HS.out.res)
    obtain ⟨d0,e0⟩:=HR1.cell 0 rfl
    obtain ⟨d1,e1⟩:=HR1.cell 1 rfl
    obtain ⟨d2,e2⟩:=HR1.cell 2 rfl
    have HP:=hid (fun a b c=>St.pass HS.out hb hk hr (a:=a) (b:=b) (c:=c))
    clear hb hk hr HR1
    go_wp2_with fail
    refine bodyPost_ret (by simp [results,Tryz.results90,go_sem,d0,d1,d2];try rfl) rfl ?_
    exact HP.out _ _ _
theorem urelSlash_calls {E:Prop} {w:World} {B g:Nat} {x:RdP} {tv bpv upv bv uv pv:Value} (h:Rd E w B g x tv bpv upv bv uv pv) (c:Int) :
 Calls Tryz.prog 94 #[.pointer (some ⟨g,0,none⟩),.int .i64 c] w fun e w'=>MP B g (relSlashP x c) w e w':=by
 have HS:=hid (St.new h)
 unfold relSlashP
 clear h
 cases hsp:spM x.m<;>cases hs:slashM x.m c
 ·rw [if_neg (by decide)]
  cases h47:c==47
  ·rw [if_neg (by simpa using h47)]
   go_enter Tryz.func94,Tryz.ntmps94
   go_upto_region 1 with fail
   generalize w.alloc (.cells #[.int .i64 0,.int .i64 0,.int .i64 0] MT)=w0 at *
   generalize w.heap.size=R at *
   have HSl:=hid (uslash_calls HS.out.rd c)
   have HSp:=hid (uspecial_calls HS.out.rd)
   rw [hs] at HSl
   rw [hsp] at HSp
   go_wp2_with (first | (go_at_call 139;refine HSp.out.mono ?_;rintro e w6 ⟨rfl,rfl⟩) | (go_at_call 135;refine HSl.out.mono ?_;rintro e w6 ⟨rfl,rfl⟩))
   refine (utakeAuth_calls HS.out).mono ?_
   rintro e w1 ⟨rfl,hT⟩
   replace HS:=hid hT
   clear hT
   go_wp2_with fail
   refine (uagain_calls 13 _).mono ?_
   rintro e w1 ⟨rfl,hb⟩
   replace HS:=hid (HS.out.below hb)
   clear hb
   obtain ⟨d0,e0⟩:=HS.out.res.cell 0 rfl
   obtain ⟨d1,e1⟩:=HS.out.res.cell 1 rfl
   obtain ⟨d2,e2⟩:=HS.out.res.cell 2 rfl
   go_wp2_with fail
   refine bodyPost_ret (by simp [results,Tryz.results94,go_sem,d0,d1,d2];try rfl) rfl ?_
   exact HS.out.told (fun h=>absurd h (by decide))
  ·rw [if_pos (by simpa using h47)]
   go_enter Tryz.func94,Tryz.ntmps94
   go_upto_region 1 with fail
   generalize w.alloc (.cells #[.int .i64 0,.int .i64 0,.int .i64 0] MT)=w0 at *
   generalize w.heap.size=R at *
   have HSl:=hid (uslash_calls HS.out.rd c)
   have HSp:=hid (uspecial_calls HS.out.rd)
   rw [hs] at HSl
   rw [hsp] at HSp
   go_wp2_with (first | (go_at_call 139;refine HSp.out.mono ?_;rintro e w6 ⟨rfl,rfl⟩) | (go_at_call 135;refine HSl.out.mono ?_;rintro e w6 ⟨rfl,rfl⟩))
   refine (uon_calls 9 _).mono ?_
   rintro e w1 ⟨rfl,hb⟩
   replace HS:=hid (HS.out.below hb)
   clear hb
   obtain ⟨d0,e0⟩:=HS.out.res.cell 0 rfl
   obtain ⟨d1,e1⟩:=HS.out.res.cell 1 rfl
   obtain ⟨d2,e2⟩:=HS.out.res.cell 2 rfl
   go_wp2_with fail
   refine bodyPost_ret (by simp [results,Tryz.results94,go_sem,d0,d1,d2];try rfl) rfl ?_
   exact HS.out.told (fun h=>absurd h (by decide))
 ·rw [if_neg (by decide)]
  cases h47:c==47
  ·rw [if_neg (by simpa using h47)]
   go_enter Tryz.func94,Tryz.ntmps94
   go_upto_region 1 with fail
   generalize w.alloc (.cells #[.int .i64 0,.int .i64 0,.int .i64 0] MT)=w0 at *
   generalize w.heap.size=R at *
   have HSl:=hid (uslash_calls HS.out.rd c)
   have HSp:=hid (uspecial_calls HS.out.rd)
   rw [hs] at HSl
   rw [hsp] at HSp
   go_wp2_with (first | (go_at_call 139;refine HSp.out.mono ?_;rintro e w6 ⟨rfl,rfl⟩) | (go_at_call 135;refine HSl.out.mono ?_;rintro e w6 ⟨rfl,rfl⟩))
   refine (utakeAuth_calls HS.out).mono ?_
   rintro e w1 ⟨rfl,hT⟩
   replace HS:=hid hT
   clear hT
   go_wp2_with fail
   refine (uagain_calls 13 _).mono ?_
   rintro e w1 ⟨rfl,hb⟩
   replace HS:=hid (HS.out.below hb)
   clear hb
   obtain ⟨d0,e0⟩:=HS.out.res.cell 0 rfl
   obtain ⟨d1,e1⟩:=HS.out.res.cell 1 rfl
   obtain ⟨d2,e2⟩:=HS.out.res.cell 2 rfl
   go_wp2_with fail
   refine bodyPost_ret (by simp [results,Tryz.results94,go_sem,d0,d1,d2];try rfl) rfl ?_
   exact HS.out.told (fun h=>absurd h (by decide))
  ·rw [if_pos (by simpa using h47)]
   go_enter Tryz.func94,Tryz.ntmps94
   go_upto_region 1 with fail
   generalize w.alloc (.cells #[.int .i64 0,.int .i64 0,.int .i64 0] MT)=w0 at *
   generalize w.heap.size=R at *
   have HSl:=hid (uslash_calls HS.out.rd c)
   have HSp:=hid (uspecial_calls HS.out.rd)
   rw [hs] at HSl
   rw [hsp] at HSp
   go_wp2_with (first | (go_at_call 139;refine HSp.out.mono ?_;rintro e w6 ⟨rfl,rfl⟩) | (go_at_call 135;refine HSl.out.mono ?_;rintro e w6 ⟨rfl,rfl⟩))
   refine (uon_calls 9 _).mono ?_
   rintro e w1 ⟨rfl,hb⟩
   replace HS:=hid (HS.out.below hb)
   clear hb
   obtain ⟨d0,e0⟩:=HS.out.res.cell 0 rfl
   obtain ⟨d1,e1⟩:=HS.out.res.cell 1 rfl
   obtain ⟨d2,e2⟩:=HS.out.res.cell 2 rfl
   go_wp2_with fail
   refine bodyPost_ret (by simp [results,Tryz.results94,go_sem,d0,d1,d2];try rfl) rfl ?_
   exact HS.out.told (fun h=>absurd h (by decide))
 ·rw [if_neg (by decide)]
  cases h47:c==47
  ·rw [if_neg (by simpa using h47)]
   go_enter Tryz.func94,Tryz.ntmps94
   go_upto_region 1 with fail
   generalize w.alloc (.cells #[.int .i64 0,.int .i64 0,.int .i64 0] MT)=w0 at *
   generalize w.heap.size=R at *
   have HSl:=hid (uslash_calls HS.out.rd c)
   have HSp:=hid (uspecial_calls HS.out.rd)
   rw [hs] at HSl
   rw [hsp] at HSp
   go_wp2_with (first | (go_at_call 139;refine HSp.out.mono ?_;rintro e w6 ⟨rfl,rfl⟩) | (go_at_call 135;refine HSl.out.mono ?_;rintro e w6 ⟨rfl,rfl⟩))
   refine (utakeAuth_calls HS.out).mono ?_
   rintro e w1 ⟨rfl,hT⟩
   replace HS:=hid hT
   clear hT
   go_wp2_with fail
   refine (uagain_calls 13 _).mono ?_
   rintro e w1 ⟨rfl,hb⟩
   replace HS:=hid (HS.out.below hb)
   clear hb
   obtain ⟨d0,e0⟩:=HS.out.res.cell 0 rfl
   obtain ⟨d1,e1⟩:=HS.out.res.cell 1 rfl
   obtain ⟨d2,e2⟩:=HS.out.res.cell 2 rfl
   go_wp2_with fail
   refine bodyPost_ret (by simp [results,Tryz.results94,go_sem,d0,d1,d2];try rfl) rfl ?_
   exact HS.out.told (fun h=>absurd h (by decide))
  ·rw [if_pos (by simpa using h47)]
   go_enter Tryz.func94,Tryz.ntmps94
   go_upto_region 1 with fail
   generalize w.alloc (.cells #[.int .i64 0,.int .i64 0,.int .i64 0] MT)=w0 at *
   generalize w.heap.size=R at *
   have HSl:=hid (uslash_calls HS.out.rd c)
   have HSp:=hid (uspecial_calls HS.out.rd)
   rw [hs] at HSl
   rw [hsp] at HSp
   go_wp2_with (first | (go_at_call 139;refine HSp.out.mono ?_;rintro e w6 ⟨rfl,rfl⟩) | (go_at_call 135;refine HSl.out.mono ?_;rintro e w6 ⟨rfl,rfl⟩))
   refine (uon_calls 9 _).mono ?_
   rintro e w1 ⟨rfl,hb⟩
   replace HS:=hid (HS.out.below hb)
   clear hb
   obtain ⟨d0,e0⟩:=HS.out.res.cell 0 rfl
   obtain ⟨d1,e1⟩:=HS.out.res.cell 1 rfl
   obtain ⟨d2,e2⟩:=HS.out.res.cell 2 rfl
   go_wp2_with fail
   refine bodyPost_ret (by simp [results,Tryz.results94,go_sem,d0,d1,d2];try rfl) rfl ?_
   exact HS.out.told (fun h=>absurd h (by decide))
 ·rw [if_pos (by rfl)]
  go_enter Tryz.func94,Tryz.ntmps94
  go_upto_region 1 with fail
  generalize w.alloc (.cells #[.int .i64 0,.int .i64 0,.int .i64 0] MT)=w0 at *
  generalize w.heap.size=R at *
  have HSl:=hid (uslash_calls HS.out.rd c)
  have HSp:=hid (uspecial_calls HS.out.rd)
  rw [hs] at HSl
  rw [hsp] at HSp
  go_wp2_with (first | (go_at_call 139;refine HSp.out.mono ?_;rintro e w6 ⟨rfl,rfl⟩) | (go_at_call 135;refine HSl.out.mono ?_;rintro e w6 ⟨rfl,rfl⟩))
  refine (uon_calls 8 _).mono ?_
  rintro e w1 ⟨rfl,hb⟩
  replace HS:=hid (HS.out.below hb)
  clear hb
  obtain ⟨d0,e0⟩:=HS.out.res.cell 0 rfl
  obtain ⟨d1,e1⟩:=HS.out.res.cell 1 rfl
  obtain ⟨d2,e2⟩:=HS.out.res.cell 2 rfl
  go_wp2_with fail
  refine bodyPost_ret (by simp [results,Tryz.results94,go_sem,d0,d1,d2];try rfl) rfl ?_
  exact HS.out.told (fun h=>absurd h (by decide))
theorem ustart_calls {E:Prop} {w:World} {B g:Nat} {x:RdP} {tv bpv upv bv uv pv:Value} (h:Rd E w B g x tv bpv upv bv uv pv) (c:Int) :
 Calls Tryz.prog 100 #[.pointer (some ⟨g,0,none⟩),.int .i64 c] w fun e w'=>MP B g (startP x c) w e w':=by
 have HS:=hid (St.new h)
 unfold startP
 clear h
 cases hs:slashM x.m c
 ·rw [if_neg (by decide)]
  have HEn:=hid (fun w=>uends_calls c w)
  cases hsp:spM x.m<;>cases hn:endsB c
  ·rw [if_neg (by decide)]
   rw [hn] at HEn
   go_enter Tryz.func100,Tryz.ntmps100
   go_upto_region 1 with fail
   generalize w.alloc (.cells #[.int .i64 0,.int .i64 0,.int .i64 0] MT)=w0 at *
   generalize w.heap.size=R at *
   have HSl:=hid (uslash_calls HS.out.rd c)
   have HSp:=hid (uspecial_calls HS.out.rd)
   rw [hs] at HSl
   rw [hsp] at HSp
   go_wp2_with (first | (go_at_call 139;refine HSp.out.mono ?_;rintro e w6 ⟨rfl,rfl⟩) | (go_at_call 135;refine HSl.out.mono ?_;rintro e w6 ⟨rfl,rfl⟩) | (go_at_call 137;refine (HEn.out _).mono ?_;rintro e w6 ⟨rfl,rfl⟩))
   refine (uagain_calls 13 _).mono ?_
   rintro e w1 ⟨rfl,hb⟩
   replace HS:=hid (HS.out.below hb)
   clear hb
   obtain ⟨d0,e0⟩:=HS.out.res.cell 0 rfl
   obtain ⟨d1,e1⟩:=HS.out.res.cell 1 rfl
   obtain ⟨d2,e2⟩:=HS.out.res.cell 2 rfl
   go_wp2_with fail
   refine bodyPost_ret (by simp [results,Tryz.results100,go_sem,d0,d1,d2];try rfl) rfl ?_
   exact HS.out.told (fun h=>absurd h (by decide))
  ·rw [if_pos (by rfl)]
   rw [hn] at HEn
   go_enter Tryz.func100,Tryz.ntmps100
   go_upto_region 1 with fail
   generalize w.alloc (.cells #[.int .i64 0,.int .i64 0,.int .i64 0] MT)=w0 at *
   generalize w.heap.size=R at *
   have HSl:=hid (uslash_calls HS.out.rd c)
   have HSp:=hid (uspecial_calls HS.out.rd)
   rw [hs] at HSl
   rw [hsp] at HSp
   go_wp2_with (first | (go_at_call 139;refine HSp.out.mono ?_;rintro e w6 ⟨rfl,rfl⟩) | (go_at_call 135;refine HSl.out.mono ?_;rintro e w6 ⟨rfl,rfl⟩) | (go_at_call 137;refine (HEn.out _).mono ?_;rintro e w6 ⟨rfl,rfl⟩))
   refine (uleave_calls HS.out.rd c).mono ?_
   rintro e w1 ⟨rfl,hb,hk,hr⟩
   have HR1:=HS.out.res.kept (hk _ _ MT _ (Or.inl rfl) HS.out.res)
   obtain ⟨d0,e0⟩:=HR1.cell 0 rfl
   obtain ⟨d1,e1⟩:=HR1.cell 1 rfl
   obtain ⟨d2,e2⟩:=HR1.cell 2 rfl
   have HP:=hid (fun a b c=>St.pass HS.out hb hk hr (a:=a) (b:=b) (c:=c))
   clear hb hk hr HR1
   go_wp2_with fail
   refine bodyPost_ret (by simp [results,Tryz.results100,go_sem,d0,d1,d2];try rfl) rfl ?_
   exact HP.out _ _ _
  ·rw [if_neg (by decide)]
   rw [hn] at HEn
   go_enter Tryz.func100,Tryz.ntmps100
   go_upto_region 1 with fail
   generalize w.alloc (.cells #[.int .i64 0,.int .i64 0,.int .i64 0] MT)=w0 at *
   generalize w.heap.size=R at *
   have HSl:=hid (uslash_calls HS.out.rd c)
   have HSp:=hid (uspecial_calls HS.out.rd)
   rw [hs] at HSl
   rw [hsp] at HSp
   go_wp2_with (first | (go_at_call 139;refine HSp.out.mono ?_;rintro e w6 ⟨rfl,rfl⟩) | (go_at_call 135;refine HSl.out.mono ?_;rintro e w6 ⟨rfl,rfl⟩) | (go_at_call 137;refine (HEn.out _).mono ?_;rintro e w6 ⟨rfl,rfl⟩))
   refine (uagain_calls 13 _).mono ?_
   rintro e w1 ⟨rfl,hb⟩
   replace HS:=hid (HS.out.below hb)
   clear hb
   obtain ⟨d0,e0⟩:=HS.out.res.cell 0 rfl
   obtain ⟨d1,e1⟩:=HS.out.res.cell 1 rfl
   obtain ⟨d2,e2⟩:=HS.out.res.cell 2 rfl
   go_wp2_with fail
   refine bodyPost_ret (by simp [results,Tryz.results100,go_sem,d0,d1,d2];try rfl) rfl ?_
   exact HS.out.told (fun h=>absurd h (by decide))
  ·rw [if_neg (by decide)]
   rw [hn] at HEn
   go_enter Tryz.func100,Tryz.ntmps100
   go_upto_region 1 with fail
   generalize w.alloc (.cells #[.int .i64 0,.int .i64 0,.int .i64 0] MT)=w0 at *
   generalize w.heap.size=R at *
   have HSl:=hid (uslash_calls HS.out.rd c)
   have HSp:=hid (uspecial_calls HS.out.rd)
   rw [hs] at HSl
   rw [hsp] at HSp
   go_wp2_with (first | (go_at_call 139;refine HSp.out.mono ?_;rintro e w6 ⟨rfl,rfl⟩) | (go_at_call 135;refine HSl.out.mono ?_;rintro e w6 ⟨rfl,rfl⟩) | (go_at_call 137;refine (HEn.out _).mono ?_;rintro e w6 ⟨rfl,rfl⟩))
   refine (uagain_calls 13 _).mono ?_
   rintro e w1 ⟨rfl,hb⟩
   replace HS:=hid (HS.out.below hb)
   clear hb
   obtain ⟨d0,e0⟩:=HS.out.res.cell 0 rfl
   obtain ⟨d1,e1⟩:=HS.out.res.cell 1 rfl
   obtain ⟨d2,e2⟩:=HS.out.res.cell 2 rfl
   go_wp2_with fail
   refine bodyPost_ret (by simp [results,Tryz.results100,go_sem,d0,d1,d2];try rfl) rfl ?_
   exact HS.out.told (fun h=>absurd h (by decide))
 ·rw [if_pos rfl]
  go_enter Tryz.func100,Tryz.ntmps100
  go_upto_region 1 with fail
  generalize w.alloc (.cells #[.int .i64 0,.int .i64 0,.int .i64 0] MT)=w0 at *
  generalize w.heap.size=R at *
  have HSl:=hid (uslash_calls HS.out.rd c)
  rw [hs] at HSl
  go_wp2_with fail
  refine (HSl.out).mono ?_
  rintro e w1 ⟨rfl,rfl⟩
  go_wp2_with fail
  refine (uon_calls 13 _).mono ?_
  rintro e w1 ⟨rfl,hb⟩
  replace HS:=hid (HS.out.below hb)
  clear hb
  obtain ⟨d0,e0⟩:=HS.out.res.cell 0 rfl
  obtain ⟨d1,e1⟩:=HS.out.res.cell 1 rfl
  obtain ⟨d2,e2⟩:=HS.out.res.cell 2 rfl
  go_wp2_with fail
  refine bodyPost_ret (by simp [results,Tryz.results100,go_sem,d0,d1,d2];try rfl) rfl ?_
  exact HS.out.told (fun h=>absurd h (by decide))
end Go.Proofs.YtigfgloenjoeoaaGreatDoor
namespace Go.Proofs.YtigfgloenjoeoaaGreatDoor
open Go.RowKit Go.Shelf Go.Lib Go.Sort
def delRen:Ren:=⟨fun | 6=>87 | 10=>66 | n=>n,fun | 0=>0 | 3=>3 | 4=>4 | 22=>63 | 23=>3 | 25=>91 | n=>n,fun n=>n⟩
theorem delLays:SlLaysH.n10 Tryz.prog delRen :=
 {mixed:=by kernel_rfl
  f6:=⟨"slices.IndexFunc[[]int,int]",by decide,Tryz.func87.trans (congrArg some (by kernel_rfl))⟩
  f10:=⟨"slices.DeleteFunc[[]int,int]",by decide,Tryz.func66.trans (congrArg some (by kernel_rfl))⟩
  t0:=Tryz.underlying0
  a0:=Tryz.isAgg0
  z0:=Tryz.sizeOf0
  v0:=Tryz.zeroValue0
  t3:=Tryz.underlying3
  a3:=Tryz.isAgg3
  z3:=Tryz.sizeOf3
  v3:=Tryz.zeroValue3
  t4:=Tryz.underlying4
  a4:=Tryz.isAgg4
  z4:=Tryz.sizeOf4
  v4:=Tryz.zeroValue4
  t22:=Tryz.underlying63
  a22:=Tryz.isAgg63
  z22:=Tryz.sizeOf63
  v22:=Tryz.zeroValue63
  a23:=Tryz.isAgg3
  z23:=Tryz.sizeOf3
  t25:=Tryz.underlying91
  a25:=Tryz.isAgg91
  z25:=Tryz.sizeOf91
  v25:=Tryz.zeroValue91 }
def blankP (c:Int):Bool:=c==9||c==10||c==13
theorem blank_gives (x:Int) (W:World):FnGives Tryz.prog 67 #[] #[.int .i64 x] (.bool (blankP x)) W:=by
 show Calls Tryz.prog 67 #[.int .i64 x] W _
 unfold blankP
 go_enter Tryz.func67,Tryz.ntmps67
 go_wp2
 all_goals (go_ret;exact ⟨by simp_all,0,rfl⟩)
theorem blank_enters:∀args w,(callFunc 67 args).run Tryz.prog w=.ok (.enter 67 args) w:=enters_of Tryz.func67 (by kernel_rfl) rfl
theorem del_calls (g off cap:Nat) (d:List Int) (w:World) (hg:g < w.heap.size) (hH:∀i (h:i < d.length),w.cell? ⟨g,off+i,none⟩=some (fi d[i])∧w.frozen? ⟨g,off+i,none⟩=false) (hsz:d.length≤cap) (hcap:cap≤maxLen) :
 Calls Tryz.prog 66 #[.slice (some ⟨g,off,none⟩) d.length cap,.func (.func 67) #[] #[]] w fun e w' =>
  (∃v,e=.returned v∧v=.slice (some ⟨g,off,none⟩) (d.filter fun x=>!blankP x).length cap∧Row fi w' v (d.filter fun x=>!blankP x))∧∃q D,w'=putRow (Value.int .i64) (Sort.ahead w q) g off D:=by
 have hH':Holds (Value.int .i64) w g off d.toArray:=fun j hj=>by
  have:=hH j (by simpa using hj)
  refine ⟨this.1.trans ?_,this.2⟩
  simp [getElem!_pos,List.getElem?_eq_getElem (show j < d.length by simpa using hj)]
 have hcon:=AnyE.slices_DeleteFunc delLays (Value.int .i64) (fun _=>rfl) blankP 67 #[] blank_enters 0 Tryz.zeroValue3 g off cap d.toArray w
  (fun W x _=>blank_gives x W) (fun n os dk x _=>blank_gives x _) hH' (by simp;unfold maxLen at hcap;omega) (by simpa using hsz)
 change Calls Tryz.prog 66 _ _ _ at hcon
 have e0:d.toArray.toList=d:=rfl
 have e1:d.toArray.size=d.length:=by simp
 rw [e0,e1] at hcon
 refine hcon.mono ?_
 rintro e w1 ⟨rfl,q,rfl⟩
 have hle:(d.filter fun x=>!blankP x).length≤d.length:=List.length_filter_le _ _
 refine ⟨⟨_,rfl,rfl,_,_,rfl,by omega,hcap,fun _=>⟨g,off,rfl,by rw [size_putRow];exact hg,fun i hi=>?_⟩⟩,q,_,rfl⟩
 have hs:((d.filter fun x=>!blankP x)++List.replicate (d.length-(d.filter fun x=>!blankP x).length) (0:Int)).toArray.size=d.toArray.size:=by simp;omega
 have hHa:Holds (Value.int .i64) (Sort.ahead w q) g off d.toArray:=hH'
 rw [cell?_putRow (Value.int .i64) _ g off d.toArray _ hHa hs i (by rw [hs];simp;omega)]
 rw [getElem!_pos _ i (by rw [hs];simp;omega),List.getElem_toArray,List.getElem_append_left hi]
end Go.Proofs.YtigfgloenjoeoaaGreatDoor
