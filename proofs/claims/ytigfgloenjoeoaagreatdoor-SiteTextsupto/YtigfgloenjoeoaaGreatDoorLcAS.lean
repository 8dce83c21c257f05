import Derived.Test.YtigfgloenjoeoaaGreatDoorLcAC
import Derived.Test.YtigfgloenjoeoaaGreatDoorLcAM
import Derived.Laws.CopyOwn
import Derived.Handy
set_option linter.unusedVariables false
set_option linter.unusedSimpArgs false
set_option maxRecDepth 20000
set_option maxHeartbeats 16000000
namespace Go.Proofs.YtigfgloenjoeoaaGreatDoor
open Go.RowKit
abbrev valR (r:Rule):Value:=.agg #[.int .i64 r.1,.int .i64 r.2.1,.bool r.2.2.1,.int .i64 r.2.2.2.1,.int .i64 r.2.2.2.2.1,.int .i64 r.2.2.2.2.2]
theorem fits_calls (f l kd to th c:Int) (p:Bool) (w:World) (hf:0≤f) (hl:l≤1114111) :
 Calls Tryz.prog 177 #[valR (f,l,p,kd,to,th),.int .i64 c] w fun e w'=>e=.returned (.bool (fitsR (f,l,p,kd,to,th) c))∧Below w.heap.size w w':=by
 have HB:Hid (Below w.heap.size w (w.alloc (.cells #[.int .i64 f,.int .i64 l,.bool p,.int .i64 kd,.int .i64 to,.int .i64 th] 157))):=(Below.refl _ _).alloc (Nat.le_refl _) _
 by_cases h1:f≤c
 ·by_cases h2:c≤l
  ·cases p with
   | false =>
     have HQ:Hid (fitsR (f,l,false,kd,to,th) c=true):=by show fitsR _ _=_;simp [fitsR,h1,h2]
     go_enter Tryz.func177,Tryz.ntmps177
     go_wp2
     go_ret
     exact ⟨ret_bool HQ.out.symm,HB.out⟩
   | true =>
     have HQ:Hid (fitsR (f,l,true,kd,to,th) c=decide ((c-f)%2=0)):=by show fitsR _ _=_;simp [fitsR,h1,h2]
     have ht:(c-f).tmod 2=(c-f)%2:=Int.tmod_eq_emod_of_nonneg (by omega)
     go_enter Tryz.func177,Tryz.ntmps177
     go_wp2
     go_ret
     refine ⟨ret_bool ?_,HB.out⟩
     rw [HQ.out]
     rfl
  ·have HQ:Hid (fitsR (f,l,p,kd,to,th) c=false):=by show fitsR _ _=_;simp [fitsR,h1,h2]
   go_enter Tryz.func177,Tryz.ntmps177
   go_wp2
   go_ret
   exact ⟨ret_bool HQ.out.symm,HB.out⟩
 ·have HQ:Hid (fitsR (f,l,p,kd,to,th) c=false):=by show fitsR _ _=_;simp [fitsR,h1]
  go_enter Tryz.func177,Tryz.ntmps177
  go_wp2
  go_ret
  exact ⟨ret_bool HQ.out.symm,HB.out⟩
theorem and_even (c:Nat):c &&& 65534=2 * (c/2%32768):=by
 apply Nat.eq_of_testBit_eq
 intro i
 cases i with
 | zero=>simp
 | succ i =>
   rw [Nat.testBit_and,Nat.testBit_succ,Nat.testBit_succ,Nat.testBit_succ,show 65534/2=32767 from rfl,← Nat.testBit_and,Nat.and_two_pow_sub_one_eq_mod (c/2) 15]
   congr 1
   omega
theorem low_even {c:Int} (h0:0≤c) (h1:c≤1114111):∃m:Int,bits .and .i64 c 65534=m∧(m==65534)=decide (65534≤c%65536):=by
 obtain ⟨n,rfl⟩:=Int.eq_ofNat_of_zero_le h0
 refine ⟨_,i64_and n 65534 (by omega) (by decide),?_⟩
 rw [and_even]
 by_cases h:(65534:Int)≤(n:Int)%65536
 ·rw [decide_eq_true h,beq_iff_eq];omega
 ·rw [decide_eq_false h,beq_eq_false_iff_ne];omega
def TabAt (w:World) (b:Nat):Prop:=w.heap[b]? = some (.cells tabCells 159)
theorem TabAt.lt {w:World} {b:Nat} (h:TabAt w b):b < w.heap.size:=by
 rcases Nat.lt_or_ge b w.heap.size with h' | h'
 ·exact h'
 ·unfold TabAt at h;rw [Array.getElem?_eq_none h'] at h;cases h
theorem TabAt.below {w w':World} {b:Nat} (h:TabAt w b) (hb:Below w.heap.size w w'):TabAt w' b:=by
 unfold TabAt;rw [hb.block b h.lt];exact h
theorem flat6 {α β:Type} (f:α→List β) (h:∀x,(f x).length=6) (d:α):∀(l:List α) (k j:Nat),k < l.length→j < 6→(l.flatMap f)[k * 6+j]? = (f (l.getD k d))[j]?
 | [],_,_,hk,_=>by simp at hk
 | x::l,0,j,_,hj=>by
   rw [List.flatMap_cons,List.getElem?_append_left (by rw [h];omega)]
   simp
 | x::l,k+1,j,hk,hj=>by
   rw [List.flatMap_cons,List.getElem?_append_right (by rw [h];omega),h,show (k+1) * 6+j-6=k * 6+j by omega,flat6 f h d l k j (by simpa using hk) hj]
   simp
theorem tab_cell (k:Nat) (hk:k < 34) (j:Nat) (hj:j < 6):tabCells[k * 6+j]? = (cellsR (rules.getD k (0,0,false,1,0,0)))[j]? := by
 unfold tabCells
 rw [List.getElem?_toArray]
 exact flat6 cellsR (fun _=>rfl) _ rules k j (by rw [rules_len];exact hk) hj
theorem TabAt.cell {w:World} {b k:Nat} (h:TabAt w b) (hk:k < 34) (j:Nat) (hj:j < 6):w.cell? ⟨b,k * 6+j,none⟩=(cellsR (rules.getD k (0,0,false,1,0,0)))[j]? := by
 rw [← tab_cell k hk j hj]
 unfold TabAt at h
 simp [World.cell?,h]
theorem rules_bound:∀k,k < 34→0≤(rules.getD k (0,0,false,1,0,0)).1∧(rules.getD k (0,0,false,1,0,0)).2.1≤1114111:=by decide +kernel
theorem rule_next (k:Nat) (c:Int) (h:∀r∈rules.take k,fitsR r c=false) (hk:k < 34) (hf:fitsR (rules.getD k (0,0,false,1,0,0)) c=false):∀r∈rules.take (k+1),fitsR r c=false:=by
 have hk':k < rules.length:=by rw [rules_len];exact hk
 rw [List.take_succ_eq_append_getElem hk']
 intro r hr
 rcases List.mem_append.1 hr with h' | h'
 ·exact h r h'
 ·rw [List.mem_singleton.1 h',← hf,List.getD_eq_getElem?_getD,List.getElem?_eq_getElem hk'];rfl
theorem rule_found (k:Nat) (c:Int) (hb:barred c=false) (h:∀r∈rules.take k,fitsR r c=false) (hk:k < 34) (hf:fitsR (rules.getD k (0,0,false,1,0,0)) c=true):ruleOf c=rules.getD k (0,0,false,1,0,0):=by
 have hk':k < rules.length:=by rw [rules_len];exact hk
 have e:rules.getD k (0,0,false,1,0,0)=rules[k]:=by rw [List.getD_eq_getElem?_getD,List.getElem?_eq_getElem hk'];rfl
 unfold ruleOf
 rw [hb,if_neg (by decide)]
 have:rules.find? (fitsR · c)=some rules[k]:=by
  rw [e] at hf
  have hs:rules=rules.take k++(rules[k]::rules.drop (k+1)):=by rw [← List.drop_eq_getElem_cons hk',List.take_append_drop]
  generalize rules[k]=x at *
  rw [hs,List.find?_append,List.find?_eq_none.2 (fun r hr=>by rw [h r hr];decide)]
  simp [hf]
 rw [this,e];rfl
theorem rule_none (c:Int) (hb:barred c=false) (h:∀r∈rules.take 34,fitsR r c=false):ruleOf c=(0,0,false,1,0,0):=by
 unfold ruleOf
 rw [hb,if_neg (by decide)]
 have e:rules.take 34=rules:=by rw [← rules_len,List.take_length]
 rw [e] at h
 rw [List.find?_eq_none.2 (fun r hr=>by rw [h r hr];decide)];rfl
theorem info_rule:(Tryz.prog.info? 157).map (·.size)=some 6:=by kernel_rfl
theorem wpList_load_rule {w:World} {b k:Nat} (ht:TabAt w b) (hk:k < 34) {r:Rule} (hr:rules.getD k (0,0,false,1,0,0)=r) {ops:Array Oper} {rest:List Oper} {o:Oper} {a:Act} {Q:Exit→Act→World→Prop} (hgd:o.guard=none) (x:Operand) (ho:o.op=.load 157 x)
 (hx:a.eval x=.pointer (some ⟨b,k * 6,none⟩)) (h:wpList Tryz.prog ops Q rest (a.put o.dst (valR r)) w):wpList Tryz.prog ops Q (o::rest) a w:=by
 refine wpList_plain hgd fun K hK=>?_
 unfold Oper.wp execOp
 have hl:(loadCells ⟨b,k * 6,none⟩ (cellsR r).length).run Tryz.prog w=.ok (cellsR r).toArray w :=
  run_loadCells_list (P:=Tryz.prog) w ⟨b,k * 6,none⟩ (cellsR r) (fun j v hv=>by
   have hj:j < 6:=by
    rcases Nat.lt_or_ge j 6 with h | h
    ·exact h
    ·rw [List.getElem?_eq_none (by simpa [cellsR] using h)] at hv;cases hv
   rw [addr_add,ht.cell hk j hj,hr]
   exact hv)
 have hld:(loadVar 157 ⟨b,k * 6,none⟩).run Tryz.prog w=.ok (valR r) w:=by
  cases hq:Tryz.prog.info? 157 with
  | none=>have:=info_rule;rw [hq] at this;cases this
  | some i =>
    have hs:i.size=6:=by have:=info_rule;rw [hq] at this;simpa using this
    have hagg:(isAgg 157).run Tryz.prog w=.ok true w:=by
     unfold isAgg
     rw [Sem.run_bind,run_underlying Tryz.underlying157 w]
     rfl
    have hl':(loadCells ⟨b,k * 6,none⟩ 6).run Tryz.prog w=.ok (cellsR r).toArray w:=hl
    simp [loadVar,Sem.run_bind,hagg,sizeOf,typeInfo,hq,hs,hl']
    rfl
 simp only [ho,hx,Instr.loadAt,Instr.sureAddr,Sem.run_bind,Sem.run_pure,Result.andThen_ok,hld]
 exact hK _ _ h
abbrev arrR (r:Rule):Array Value:=#[.int .i64 r.1,.int .i64 r.2.1,.bool r.2.2.1,.int .i64 r.2.2.2.1,.int .i64 r.2.2.2.2.1,.int .i64 r.2.2.2.2.2]
theorem all_rule (r:Rule):(arrR r).all (·.oneCell')=true:=by simp [Value.oneCell']
theorem wpList_store_rule {w:World} {g:Nat} {old:Array Value} (hg:w.heap[g]? = some (.cells old 157 (0,0))) (h6:old.size=6) (r:Rule) {ops:Array Oper} {rest:List Oper} {o:Oper} {a:Act} {Q:Exit→Act→World→Prop} (hgd:o.guard=none) (x y:Operand) (ho:o.op=.store 157 x y)
 (hx:a.eval x=.pointer (some ⟨g,0,none⟩)) (hy:a.eval y=valR r) (h:wpList Tryz.prog ops Q rest (a.put o.dst undef) (w.setRow g (arrR r))):wpList Tryz.prog ops Q (o::rest) a w :=
 wpList_store_row hgd 157 x y ho g (arrR r) hx hy 157 old hg info_rule h6 (all_rule r) h
theorem post_rule {w:World} {g:Nat} {old:Array Value} (hg:w.heap[g]? = some (.cells old 157 (0,0))) (r:Rule) {fn:Func} {p:Tmp} (hfn:fn.results=#[.cell p 157]) {a:Act} (hp:a.tmps.getD p undef=.pointer (some ⟨g,0,none⟩)) (hd:a.defers=[]) {R:Ending→World→Prop} (hR:R (.returned (valR r)) (w.setRow g (arrR r))):bodyPost Tryz.prog fn R .ret a (w.setRow g (arrR r)) :=
 bodyPost_ret (v:=valR r) (results_cell_row hfn _ _ g 157 (arrR r) (0,0) _ hp (setRow_heap _ _ _ _ _ _ hg) Tryz.underlying157 rfl info_rule) hd hR
theorem ruleOf_calls (b:Nat) (c:Int) (w:World) (ht:TabAt w b) :
 Calls Tryz.prog 149 #[.pointer (some ⟨b,0,none⟩),.int .i64 c] w fun e w'=>e=.returned (valR (ruleOf c))∧Below w.heap.size w w':=by
 by_cases hS:isS c=true
 ·have hSc:=isS_iff.1 hS
  obtain ⟨m,hm,hm2⟩:=low_even (c:=c) hSc.1 hSc.2.1
  by_cases hB:65534≤c%65536
  ·rw [decide_eq_true hB] at hm2
   have HBAR:Hid (ruleOf c=(0,0,false,4,0,0)):=by
    show _=_
    unfold ruleOf
    rw [if_pos (by unfold barred;rw [hS,decide_eq_true hB];rfl)]
   have HS:=hid (fun w=>scalar_calls c w)
   rw [hS] at HS
   clear hSc hS hB ht
   go_enter Tryz.func149,Tryz.ntmps149
   go_wp2_with fail
   refine (HS.out _).mono ?_
   rintro e w1 ⟨rfl,rfl⟩
   go_wp2_with (refine wpList_store_rule (heap_alloc_last w _) rfl (0,0,false,4,0,0) rfl _ _ rfl rfl rfl ?_)
   show bodyPost _ _ _ .ret _ _
   exact post_rule (p:=4) (heap_alloc_last w _) (0,0,false,4,0,0) rfl rfl rfl ⟨by rw [HBAR.out],below_setRow ((Below.refl _ _).alloc (Nat.le_refl _) _) (Nat.le_refl _) _⟩
  ·have hbar:barred c=false:=by unfold barred;rw [hS];simp;omega
   have HBAR:=hid hbar
   have HS:=hid (fun w=>scalar_calls c w)
   rw [decide_eq_false hB] at hm2
   rw [hS] at HS
   have HT:=hid ht
   clear hbar hB hSc hS ht
   go_enter Tryz.func149,Tryz.ntmps149
   go_wp2_with fail
   refine (HS.out _).mono ?_
   rintro e w1 ⟨rfl,rfl⟩
   go_wp2_with fail
   have HZ:Hid ((w.alloc (.cells #[.int .i64 0,.int .i64 0,.bool false,.int .i64 0,.int .i64 0,.int .i64 0] 157)).heap[w.heap.size]? = some (.cells #[.int .i64 0,.int .i64 0,.bool false,.int .i64 0,.int .i64 0,.int .i64 0] 157)):=heap_alloc_last w _
   have HB1:Hid (Below w.heap.size w (w.alloc (.cells #[.int .i64 0,.int .i64 0,.bool false,.int .i64 0,.int .i64 0,.int .i64 0] 157))):=(Below.refl _ _).alloc (Nat.le_refl _) _
   have HT1:=hid (HT.out.below HB1.out)
   have HW:Hid (w.heap.size < (w.alloc (.cells #[.int .i64 0,.int .i64 0,.bool false,.int .i64 0,.int .i64 0,.int .i64 0] 157)).heap.size):=by show _ < _;simp
   generalize w.alloc (.cells #[.int .i64 0,.int .i64 0,.bool false,.int .i64 0,.int .i64 0,.int .i64 0] 157)=w1 at *
   clear HT HS
   go_loopw [18] (fun i wr=>∃k:Nat,k≤34∧i=.int .i64 (k:Int)∧(∀r∈rules.take k,fitsR r c=false)∧Below w1.heap.size w1 wr) (fun i _=>34-(intOf i).toNat)
   case atStart=>exact ⟨0,Nat.zero_le _,rfl,by simp,Below.refl _ _⟩
   case round =>
    obtain ⟨k,hk,rfl,he,hb⟩:=hrel
    have HE:=hid he
    have HB:=hid hb
    have HT2:=hid (HT1.out.below hb)
    clear he hb
    by_cases hlt:k < 34
    ·have HK:=hid hlt
     obtain ⟨r,hr⟩:∃r,rules.getD k (0,0,false,1,0,0)=r:=⟨_,rfl⟩
     obtain ⟨hf,hl⟩:=rules_bound k hlt
     have HNx:=hid (rule_next k c HE.out hlt)
     have HFd:=hid (rule_found k c HBAR.out HE.out hlt)
     rw [hr] at hf hl HNx HFd
     obtain ⟨f,l,p,kd,to,th⟩:=r
     have HR:=hid hr
     have HF:=hid (fun w=>fits_calls f l kd to th c p w hf hl)
     clear hr hf hl hk
     have k0:(0:Int)≤(k:Int):=by omega
     have k1:(k:Int) < 34:=by omega
     clear hlt
     go_wp2_with (refine wpList_load_rule HT2.out HK.out HR.out rfl _ rfl rfl ?_)
     refine (HF.out _).mono ?_
     rintro e wf ⟨rfl,hbf⟩
     have hB0:w.heap.size < wr.heap.size:=Nat.lt_of_lt_of_le HW.out HB.out.size
     have HGB:Hid (wf.heap[w.heap.size]? = some (.cells #[.int .i64 0,.int .i64 0,.bool false,.int .i64 0,.int .i64 0,.int .i64 0] 157)):=by
      show _=_
      rw [hbf.block _ (by simp;omega),Below.heap_alloc _ _ _ hB0,HB.out.block _ HW.out,HZ.out]
     have HGR:Hid (wf.heap[wr.heap.size]? = some (.cells #[.int .i64 f,.int .i64 l,.bool p,.int .i64 kd,.int .i64 to,.int .i64 th] 157)):=by
      show _=_
      rw [hbf.block _ (by simp),heap_alloc_last]
     have HBF:Hid (Below w1.heap.size w1 wf):=(HB.out.alloc HB.out.size _).trans (hbf.mono (by have:=HB.out.size;simp;omega))
     have HBW:Hid (Below w.heap.size w wf):=HB1.out.trans (HBF.out.mono (Nat.le_of_lt HW.out))
     clear hbf hB0 HF HT2
     generalize wr.heap.size=G at *
     cases hfit:fitsR (f,l,p,kd,to,th) c with
     | true =>
       have HQ:=hid (HFd.out hfit)
       clear hfit HNx HFd
       go_wp2_with (first | refine wpList_load_row rfl 157 _ rfl G rfl 157 _ (0,0) _ HGR.out Tryz.underlying157 rfl info_rule ?_ | refine wpList_store_rule HGB.out rfl (f,l,p,kd,to,th) rfl _ _ rfl rfl rfl ?_)
       show bodyPost _ _ _ .ret _ _
       exact post_rule (p:=4) HGB.out (f,l,p,kd,to,th) rfl rfl rfl ⟨by rw [HQ.out],below_setRow HBW.out (Nat.le_refl _) _⟩
     | false =>
       have HQ:=hid (HNx.out hfit)
       clear hfit HNx HFd
       go_wp2_with fail
       go_roundw
       case rel=>exact ⟨k+1,by omega,by go_num,HQ.out,HBF.out⟩
       case measure=>simp [intOf];omega
    ·have hk34:k=34:=by omega
     subst hk34
     have HQ:=hid (rule_none c HBAR.out HE.out)
     have HGB:Hid (wr.heap[w.heap.size]? = some (.cells #[.int .i64 0,.int .i64 0,.bool false,.int .i64 0,.int .i64 0,.int .i64 0] 157)):=by
      show _=_
      rw [HB.out.block _ HW.out,HZ.out]
     have HBW:Hid (Below w.heap.size w wr):=HB1.out.trans (HB.out.mono (Nat.le_of_lt HW.out))
     go_wp2_with (refine wpList_store_rule HGB.out rfl (0,0,false,1,0,0) rfl _ _ rfl rfl rfl ?_)
     show bodyPost _ _ _ .ret _ _
     exact post_rule (p:=4) HGB.out (0,0,false,1,0,0) rfl rfl rfl ⟨by rw [HQ.out],below_setRow HBW.out (Nat.le_refl _) _⟩
 ·have hS:isS c=false:=by simpa using hS
  have HBAR:Hid (ruleOf c=(0,0,false,4,0,0)):=by
   show _=_
   unfold ruleOf
   rw [if_pos (by unfold barred;rw [hS];rfl)]
  have HS:=hid (fun w=>scalar_calls c w)
  rw [hS] at HS
  clear hS ht
  go_enter Tryz.func149,Tryz.ntmps149
  go_wp2_with fail
  refine (HS.out _).mono ?_
  rintro e w1 ⟨rfl,rfl⟩
  go_wp2_with (refine wpList_store_rule (heap_alloc_last w _) rfl (0,0,false,4,0,0) rfl _ _ rfl rfl rfl ?_)
  show bodyPost _ _ _ .ret _ _
  exact post_rule (p:=4) (heap_alloc_last w _) (0,0,false,4,0,0) rfl rfl rfl ⟨by rw [HBAR.out],below_setRow ((Below.refl _ _).alloc (Nat.le_refl _) _) (Nat.le_refl _) _⟩
theorem own_lt {w:World} {base:Nat} {v:Value} {l:List Int} (h:IOwn w base v l):∀k,v.ownBlock=some k→k < w.heap.size:=fun k hk=>(World.ownsRow.lt h k hk).2
theorem sum_fits {to c f:Int} (h0:0≤c) (h1:c≤1114111) (t0:0≤to) (t1:to≤5000) (f0:0≤f) (f1:f≤1114111):IntKind.wrap .i64 (to+c)=to+c∧IntKind.wrap .i64 (to+c-f)=to+c-f:=by
 constructor<;>rw [IntKind.wrap_i64]<;>omega
theorem appendSigns_calls (r:Rule) (v:Value) (xs:List Int) (c:Int) (w:World) (base:Nat) (ho:IOwn w base v xs) (hb:base≤w.heap.size) (hl:xs.length≤500000) (h0:0≤c) (h1:c≤1114111) (t0:0≤r.2.2.2.2.1) (t1:r.2.2.2.2.1≤5000) (f0:0≤r.1) (f1:r.1≤1114111) :
 Calls Tryz.prog 150 #[valR r,v,.int .i64 c] w fun e w'=>(∃v',e=.returned v'∧IOwn w' base v' (xs++signs r c))∧Below base w w':=by
 obtain ⟨f,l,p,kd,to,th⟩:=r
 have hw1:Below base w (w.alloc (.cells (arrR (f,l,p,kd,to,th)) 157)):=(Below.refl _ _).alloc hb _
 have ho1:IOwn (w.alloc (.cells (arrR (f,l,p,kd,to,th)) 157)) base v xs:=ho.alloc _
 have hsz:(w.alloc (.cells (arrR (f,l,p,kd,to,th)) 157)).heap.size=w.heap.size+1:=by simp
 by_cases k1:kd=1
 ·subst k1
  have hs:signs (f,l,p,1,to,th) c=[c]:=by simp [signs]
  rw [hs]
  obtain ⟨v',w',hr,ho',hg⟩:=appendI_run (ho1.alloc (.cells #[.int .i64 c] 3)) (Row.lit fi _ [c] 3 (0,0) (by simp)) (by simp;omega) (by simp;omega)
  rw [hsz] at hr
  have HO:=hid ho'
  have HB:=hid ((hw1.alloc (by simp;omega) (.cells #[.int .i64 c] 3)).grown hg (by simp;omega) (Own.lt ho))
  clear hsz ho' hg ho ho1 hw1 hs hb hl h0 h1 t0 t1 f0 f1
  go_enter Tryz.func150,Tryz.ntmps150
  go_wp2_with (at_builtin;go_must (refine wpList_append_run hr rfl _ _ rfl rfl rfl rfl ?_))
  go_ret
  exact ⟨⟨_,rfl,HO.out⟩,HB.out⟩
 ·by_cases k2:kd=2
  ·subst k2
   obtain ⟨e1,e2⟩:=sum_fits h0 h1 t0 t1 f0 f1
   obtain ⟨s,hsum⟩:∃s,to+c=s:=⟨_,rfl⟩
   obtain ⟨z,hz⟩:∃z,s-f=z:=⟨_,rfl⟩
   simp only at e1 e2
   rw [hsum] at e1 e2
   rw [hz] at e2
   obtain ⟨v',w',hr,ho',hg⟩:=appendI_run (ho1.alloc (.cells #[.int .i64 z] 3)) (Row.lit fi _ [z] 3 (0,0) (by simp)) (by simp;omega) (by simp;omega)
   rw [hsz] at hr
   have hB:=(hw1.alloc (by simp;omega) (.cells #[.int .i64 z] 3)).grown hg (by simp;omega) (Own.lt ho)
   have hcell:w'.heap[w.heap.size]? = some (.cells (arrR (f,l,p,2,to,th)) 157):=by
    rw [hg.block w.heap.size (by simp;omega) (by intro e;have:=own_lt ho _ e.symm;omega)]
    rw [Below.heap_alloc _ _ _ (by simp),heap_alloc_last]
   have hc5:w'.cell? ⟨w.heap.size,5,none⟩=some (.int .i64 th):=by simp [World.cell?,hcell]
   by_cases k3:th=0
   ·have HS:Hid (signs (f,l,p,2,to,th) c=[z]):=by show _=_;simp [signs,k3,← hz,← hsum]
    subst k3
    have HO:=hid ho'
    have HB:=hid hB
    clear hsz ho' hg ho ho1 hw1 hb hl h0 h1 t0 t1 f0 f1 hB hcell k1
    go_enter Tryz.func150,Tryz.ntmps150
    go_wp2_with (at_builtin;go_must (refine wpList_append_run hr rfl _ _ rfl rfl rfl rfl ?_))
    go_ret
    exact ⟨⟨_,rfl,by rw [HS.out];exact HO.out⟩,HB.out⟩
   ·have HS:Hid (signs (f,l,p,2,to,th) c=[z]++[th]):=by show _=_;simp [signs,k3,← hz,← hsum]
    obtain ⟨v2,w2,hr2,ho2,hg2⟩:=appendI_run (ho'.alloc (.cells #[.int .i64 th] 3)) (Row.lit fi _ [th] 3 (0,0) (by simp)) (by simp;omega) (by have:=hB.size;simp;omega)
    have HB:=hid ((hB.alloc (by have:=hB.size;omega) (.cells #[.int .i64 th] 3)).grown hg2 (by have:=hB.size;simp;omega) (Own.lt ho'))
    have HO:=hid ho2
    have hth:(th==0)=false:=by rw [beq_eq_false_iff_ne];exact k3
    clear hsz ho' hg ho ho1 hw1 hb hl h0 h1 t0 t1 f0 f1 hB hcell k1 ho2 hg2 k3
    go_enter Tryz.func150,Tryz.ntmps150
    go_wp2_with (at_builtin;go_must (first | refine wpList_append_run hr rfl _ _ rfl rfl rfl rfl ?_ | refine wpList_append_run hr2 rfl _ _ rfl rfl rfl rfl ?_))
    go_ret
    exact ⟨⟨_,rfl,by rw [HS.out,← List.append_assoc];exact HO.out⟩,HB.out⟩
  ·have HS:Hid (signs (f,l,p,kd,to,th) c=[]):=by show _=_;simp [signs,k1,k2]
   have q1:(kd==1)=false:=by rw [beq_eq_false_iff_ne];exact k1
   have q2:(kd==2)=false:=by rw [beq_eq_false_iff_ne];exact k2
   have HO:=hid ho1
   have HB:=hid hw1
   clear hsz ho ho1 hw1 hb hl h0 h1 t0 t1 f0 f1 k1 k2
   go_enter Tryz.func150,Tryz.ntmps150
   go_wp2
   go_ret
   exact ⟨⟨_,rfl,by rw [HS.out,List.append_nil];exact HO.out⟩,HB.out⟩
theorem info_tsize:(Tryz.prog.info? 159).map (·.size)=some tabCells.size:=by rw [tab_size];exact (zero_of_info info_tab).2
theorem zero_tab (w:World):(zeroValue 159).run Tryz.prog w=.ok (.agg zeroT) w:=(zero_of_info info_tab).1 w
theorem wpList_store_tab {w:World} {ops:Array Oper} {rest:List Oper} {o:Oper} {a:Act} {Q:Exit→Act→World→Prop} (hgd:o.guard=none) (x y:Operand) (ho:o.op=.store 159 x y)
 (hx:a.eval x=.pointer (some ⟨w.heap.size,0,none⟩)) (hy:a.eval y=.agg tabCells) (h:wpList Tryz.prog ops Q rest (a.put o.dst undef) (w.alloc (.cells tabCells 159))):wpList Tryz.prog ops Q (o::rest) a (w.alloc (.cells zeroT 159)):=by
 refine wpList_store_row hgd 159 x y ho w.heap.size tabCells hx hy 159 zeroT (heap_alloc_last w _) info_tsize (by rw [tab_size];decide +kernel) tab_all ?_
 rw [World.setRow_alloc_new]
 exact h
theorem tab_there (w:World):TabAt (w.alloc (.cells tabCells 159)) w.heap.size:=heap_alloc_last w _
theorem rule_bounds (c:Int):0≤(ruleOf c).2.2.2.2.1∧(ruleOf c).2.2.2.2.1≤5000∧0≤(ruleOf c).1∧(ruleOf c).1≤1114111:=by
 unfold ruleOf
 split
 ·decide
 ·cases h:rules.find? (fitsR · c) with
  | none=>decide
  | some r =>
    have:=List.mem_of_find?_eq_some h
    have hall:∀r∈rules,0≤r.2.2.2.2.1∧r.2.2.2.2.1≤5000∧0≤r.1∧r.1≤1114111:=by decide
    exact hall r this
theorem kind_sign {c:Int} (h:kindOf c≠4):0≤c∧c≤1114111:=by
 cases hs:isS c with
 | true=>have:=isS_iff.1 hs;exact ⟨this.1,this.2.1⟩
 | false =>
   exfalso;apply h
   unfold kindOf ruleOf
   rw [if_pos (by unfold barred;rw [hs];rfl)]
def toOf (c:Int):List Int:=if kindOf c=2 then signs (ruleOf c) c else []
theorem signs_len (r:Rule) (c:Int):(signs r c).length≤2:=by
 unfold signs;repeat' split
 all_goals simp
theorem field_kind (r:Rule) (w:World):(Instr.field 157 (valR r) 3).run Tryz.prog w=.ok (.int .i64 r.2.2.2.1) w:=by
 unfold Instr.field
 rw [Sem.run_bind,run_underlying Tryz.underlying157 w]
 simp [go_sem,asAgg]
theorem kind_calls (c:Int) (w:World):Calls Tryz.prog 199 #[.int .i64 c] w fun e w'=>e=.returned (.int .i64 (kindOf c))∧Below w.heap.size w w':=by
 have hz:=zero_tab
 have HK:Hid (kindOf c=(ruleOf c).2.2.2.1):=rfl
 have HR:=hid (fun b w ht=>ruleOf_calls b c w ht)
 rcases hq:ruleOf c with ⟨f,l,p,kd,to,th⟩
 rw [hq] at HR HK
 clear hq
 have hfl:=field_kind (f,l,p,kd,to,th)
 go_enter Tryz.func199,Tryz.ntmps199
 go_wp2_with fail
 refine (makeTable_calls _).mono ?_
 rintro e w1 ⟨rfl,hb1⟩
 have HB1:=hid hb1
 clear hb1
 go_wp2_with (refine wpList_store_tab rfl _ _ rfl rfl rfl ?_)
 refine (HR.out _ _ (tab_there w1)).mono ?_
 rintro e w2 ⟨rfl,hb2⟩
 have HB2:=hid ((HB1.out.alloc HB1.out.size (.cells tabCells 159)).trans (hb2.mono (by have:=HB1.out.size;simp;omega)))
 clear hb2 HB1 hz
 go_wp2_with fail
 go_ret
 exact ⟨by rw [HK.out];rfl,HB2.out⟩
def mapOf (l:List Int):List Int:=l.flatMap fun c=>signs (ruleOf c) c
theorem map_len:∀l:List Int,(mapOf l).length≤2 * l.length
 | []=>by simp [mapOf]
 | c::l=>by
   have:=map_len l
   have h2:=signs_len (ruleOf c) c
   unfold mapOf at *
   rw [List.flatMap_cons,List.length_append,List.length_cons];omega
theorem map_snoc (l:List Int) (k:Nat) (h:k < l.length):mapOf (l.take (k+1))=mapOf (l.take k)++signs (ruleOf l[k]) l[k]:=by
 unfold mapOf
 rw [List.take_succ_eq_append_getElem h,List.flatMap_append];simp
def Fine (l:List Int):Prop:=∀c∈l,kindOf c≠4
def BadAt (l:List Int) (i:Nat):Prop:=∃h:i < l.length,kindOf l[i]=4∧Fine (l.take i)
theorem fine_or (l:List Int):Fine l∨∃i,BadAt l i:=by
 by_cases h:Fine l
 ·exact .inl h
 ·right
  have hk:∀n,n≤l.length→Fine (l.take n)∨∃i,BadAt l i:=by
   intro n
   induction n with
   | zero=>intro _;left;intro c hc;simp at hc
   | succ n ih =>
     intro hn
     rcases ih (by omega) with g | g
     ·by_cases h4:kindOf (l[n]'(by omega))=4
      ·exact .inr ⟨n,by omega,h4,g⟩
      ·left
       rw [List.take_succ_eq_append_getElem (by omega)]
       intro c hc
       rcases List.mem_append.1 hc with h' | h'
       ·exact g c h'
       ·rw [List.mem_singleton.1 h'];exact h4
     ·exact .inr g
  rcases hk l.length (Nat.le_refl _) with g | g
  ·rw [List.take_length] at g;exact absurd g h
  ·exact g
theorem BadAt.not_fine {l:List Int} {i:Nat} (h:BadAt l i):¬Fine l:=fun g=>g _ (List.getElem_mem h.1) h.2.1
theorem BadAt.uniq {l:List Int} {i j:Nat} (h:BadAt l i) (g:BadAt l j):i=j:=by
 obtain ⟨hi,h4,hf⟩:=h
 obtain ⟨gj,g4,gf⟩:=g
 rcases Nat.lt_trichotomy i j with x | x | x
 ·exact absurd h4 (gf _ (List.mem_take_iff_getElem.2 ⟨i,by omega,rfl⟩))
 ·exact x
 ·exact absurd g4 (hf _ (List.mem_take_iff_getElem.2 ⟨j,by omega,rfl⟩))
def MapPost (l:List Int) (w:World) (e:Ending) (w':World):Prop :=
 ((Fine l∧∃v',e=.returned (.tuple #[v',.int .i64 0,.bool true])∧IOwn w' w.heap.size v' (mapOf l))∨(∃i:Nat,BadAt l i∧e=.returned (.tuple #[.slice none 0 0,.int .i64 (i:Int),.bool false])))∧Below w.heap.size w w'
theorem MapPost.fine {l:List Int} {w w':World} {e:Ending} {v':Value} (h:Fine l) (he:e=.returned (.tuple #[v',.int .i64 0,.bool true])) (ho:IOwn w' w.heap.size v' (mapOf l)) (hb:Below w.heap.size w w'):MapPost l w e w':=⟨.inl ⟨h,v',he,ho⟩,hb⟩
theorem MapPost.bad {l:List Int} {w w':World} {e:Ending} {i:Nat} (h:BadAt l i) (he:e=.returned (.tuple #[.slice none 0 0,.int .i64 (i:Int),.bool false])) (hb:Below w.heap.size w w'):MapPost l w e w':=⟨.inr ⟨i,h,he⟩,hb⟩
theorem map_post (v:Value) (l:List Int) (w:World) (hv:IRow w v l) (hlen:l.length≤100000) :
 Calls Tryz.prog 106 #[v] w fun e w'=>MapPost l w e w':=by
 have hz:=zero_tab
 have HV:=hid hv
 have HL:=hid hlen
 obtain ⟨a,cap,rfl,h1,h2,h3⟩:=hv
 have hmk:=makeI l.length (by omega)
 have hl1:(l.length:Int)≤100000:=by omega
 have hc1:(l.length:Int)≤(cap:Int):=by omega
 have hc2:(cap:Int)≤9223372036854775807:=by unfold maxLen at h2;omega
 clear h3 hlen h1 h2
 go_enter Tryz.func106,Tryz.ntmps106
 go_wp2_with fail
 refine (makeTable_calls _).mono ?_
 rintro e w1 ⟨rfl,hb1⟩
 have HB1:=hid (hb1.alloc hb1.size (.cells tabCells 159))
 have HT:=hid (tab_there w1)
 have HT0:Hid (w1.heap.size < (w1.alloc (.cells tabCells 159)).heap.size):=by show _ < _;simp
 clear hb1
 go_wp2_with (refine wpList_store_tab rfl _ _ rfl rfl rfl ?_)
 have hsz:(w1.alloc (.cells tabCells 159)).heap.size=w1.heap.size+1:=by simp
 have HM:=hid (Own.made fi 3 (w1.alloc (.cells tabCells 159)) (madeCells #[.int .i64 0] l.length) l.length (size_madeCells _ _) (by have:=HL.out;omega))
 have HM2:Hid (Below (w1.heap.size+1) (w1.alloc (.cells tabCells 159)) ((w1.alloc (.cells tabCells 159)).alloc (.cells (madeCells #[.int .i64 0] l.length) 3))):=(Below.refl _ _).alloc (by rw [hsz];exact Nat.le_refl _) _
 rw [hsz] at HM
 have HW2:=hid hsz
 have HW0:=hid HB1.out.size
 clear hmk hz HT0 hsz
 generalize (w1.alloc (.cells tabCells 159)).alloc (.cells (madeCells #[.int .i64 0] l.length) 3)=ws at *
 generalize w1.alloc (.cells tabCells 159)=w2 at *
 generalize w1.heap.size=T at *
 go_loopw [6,16] (fun v i wr=>∃k:Nat,k≤l.length∧i=.int .i64 (k:Int)∧IOwn wr (T+1) v (mapOf (l.take k))∧Below (T+1) w2 wr∧Fine (l.take k)) (fun _ i _=>l.length-(intOf i).toNat)
 case atStart=>exact ⟨0,Nat.zero_le _,rfl,HM.out,HM2.out,by intro c hc;simp at hc⟩
 case round =>
  obtain ⟨k,hk,rfl,ho,hb,hf⟩:=hrel
  have HO:=hid ho
  have HB:=hid hb
  have HF:=hid hf
  have HBW:Hid (Below w.heap.size w wr):=HB1.out.trans (hb.mono (by have:=HB1.out.size;have:=HW2.out;omega))
  clear ho hb hf HM HM2
  by_cases hlt:k < l.length
  ·obtain ⟨b,off,rfl,hbl,hc⟩:∃b off,a=some ⟨b,off,none⟩∧b < w.heap.size∧∀i (h:i < l.length),w.cell? ⟨b,off+i,none⟩=some (fi l[i]):=by
    obtain ⟨a',cap',he,_,_,h3⟩:=HV.out
    injection he with e1 e2 e3
    subst e1
    exact h3 (by intro h;simp [h] at hlt)
   have hck:wr.cell? ⟨b,off+k,none⟩=some (.int .i64 l[k]):=(HBW.out.cell (p:=⟨b,off+k,none⟩) hbl).trans (hc k hlt)
   have HK:=hid hlt
   have HS:=hid (map_snoc l k hlt)
   have HBD:=hid (rule_bounds l[k])
   have HKS:Hid (kindOf l[k]≠4→0≤l[k]∧l[k]≤1114111):=kind_sign
   have HBad:Hid (kindOf l[k]=4→BadAt l k):=fun h=>⟨hlt,h,HF.out⟩
   have HNx:Hid (kindOf l[k]≠4→Fine (l.take (k+1))):=by
    intro h
    rw [List.take_succ_eq_append_getElem hlt]
    intro c hc
    rcases List.mem_append.1 hc with h' | h'
    ·exact HF.out c h'
    ·rw [List.mem_singleton.1 h'];exact h
   have k0:(0:Int)≤(k:Int):=by omega
   have k1:(k:Int) < (l.length:Int):=by omega
   have HML:=hid (map_len (l.take k))
   generalize l[k]=c at *
   have HTr:Hid (TabAt wr T):=by
    show wr.heap[T]? = _
    rw [HB.out.block T (by omega)];exact HT.out
   have HR:=hid (ruleOf_calls T c wr HTr.out)
   have HSz:Hid (T+1≤wr.heap.size):=by show _≤_;have:=HB.out.size;have:=HW2.out;omega
   by_cases h4:kindOf c=4
   ·have HX:=hid (HBad.out h4)
    have hkd:(ruleOf c).2.2.2.1=4:=h4
    clear h4 hc hk hlt HKS HBD HS HBad HNx
    rcases hq:ruleOf c with ⟨f,ll,p,kd,to,th⟩
    rw [hq] at HR hkd
    simp only at hkd
    subst hkd
    clear hq
    go_wp2_with fail
    refine HR.out.mono ?_
    rintro e w3 ⟨rfl,hb3⟩
    have HB3:=hid ((HBW.out.trans (hb3.mono HBW.out.size)).alloc (Nat.le_trans HBW.out.size hb3.size) (.cells (arrR (f,ll,p,4,to,th)) 157))
    clear hb3 HR
    go_wp2_with fail
    go_ret3
    exact MapPost.bad HX.out rfl HB3.out
   ·have HX:=hid (HNx.out h4)
    obtain ⟨c0,c1⟩:=HKS.out h4
    have hkd:((ruleOf c).2.2.2.1==4)=false:=by rw [beq_eq_false_iff_ne];exact h4
    have HLn:Hid ((mapOf (l.take k)).length≤500000):=by
     show _≤_
     have h1:=HML.out
     have h2:=HL.out
     have h3:(l.take k).length≤l.length:=by rw [List.length_take];omega
     omega
    have HA:=hid (fun w ho hb=>appendSigns_calls (ruleOf c) u6 (mapOf (l.take k)) c w (T+1) ho hb HLn.out c0 c1 HBD.out.1 HBD.out.2.1 HBD.out.2.2.1 HBD.out.2.2.2)
    clear h4 hc hk hlt HKS HBD HBad HNx c0 c1 HML HLn
    rcases hq:ruleOf c with ⟨f,ll,p,kd,to,th⟩
    rw [hq] at HR hkd HA HS
    simp only at hkd
    clear hq
    go_wp2_with fail
    refine HR.out.mono ?_
    rintro e w3 ⟨rfl,hb3⟩
    have HO3:=hid ((HO.out.below hb3).alloc (.cells (arrR (f,ll,p,kd,to,th)) 157))
    have HB3:=hid ((HB.out.trans (hb3.mono HSz.out)).alloc (Nat.le_trans HSz.out hb3.size) (.cells (arrR (f,ll,p,kd,to,th)) 157))
    have HZ3:Hid (T+1≤(w3.alloc (.cells (arrR (f,ll,p,kd,to,th)) 157)).heap.size):=by show _≤_;have:=HSz.out;have:=hb3.size;simp;omega
    clear hb3 HR HO HB HBW HTr HSz hck
    go_wp2_with fail
    refine (HA.out _ HO3.out HZ3.out).mono ?_
    rintro e w4 ⟨⟨v',rfl,ho4⟩,hb4⟩
    have HO4:=hid ho4
    have HB4:=hid (HB3.out.trans hb4)
    clear ho4 hb4 HA HO3 HB3 HZ3
    go_wp2_with fail
    go_roundw
    case rel=>exact ⟨k+1,HK.out,by go_num,by rw [HS.out];exact HO4.out,HB4.out,HX.out⟩
    case measure=>have:=HK.out;simp [intOf];omega
  ·have hkl:k=l.length:=by omega
   have HX:Hid (Fine l):=by have:=HF.out;rwa [hkl,List.take_length] at this
   have HO2:Hid (IOwn wr w.heap.size u6 (mapOf l)):=by
    have:=HO.out.mono (base':=w.heap.size) (by have:=HB1.out.size;have:=HW2.out;omega)
    rwa [hkl,List.take_length] at this
   clear HO HB HF
   go_wp2_with fail
   go_ret3
   exact MapPost.fine HX.out rfl HO2.out HBW.out
theorem map_fine (v:Value) (l:List Int) (w:World) (hv:IRow w v l) (hlen:l.length≤100000) (h:Fine l) :
 Calls Tryz.prog 106 #[v] w fun e w'=>(∃v',e=.returned (.tuple #[v',.int .i64 0,.bool true])∧IOwn w' w.heap.size v' (mapOf l))∧Below w.heap.size w w':=by
 refine (map_post v l w hv hlen).mono ?_
 rintro e w' ⟨⟨_,v',he,ho⟩ | ⟨i,hi,_⟩,hb⟩
 ·exact ⟨⟨v',he,ho⟩,hb⟩
 ·exact absurd h hi.not_fine
theorem map_bad (v:Value) (l:List Int) (w:World) (hv:IRow w v l) (hlen:l.length≤100000) (i:Nat) (h:BadAt l i) :
 Calls Tryz.prog 106 #[v] w fun e w'=>e=.returned (.tuple #[.slice none 0 0,.int .i64 (i:Int),.bool false])∧Below w.heap.size w w':=by
 refine (map_post v l w hv hlen).mono ?_
 rintro e w' ⟨⟨g,_⟩ | ⟨j,hj,he⟩,hb⟩
 ·exact absurd g h.not_fine
 ·rw [h.uniq hj];exact ⟨he,hb⟩
end Go.Proofs.YtigfgloenjoeoaaGreatDoor
namespace Go.Proofs.YtigfgloenjoeoaaGreatDoor
def checkTo:Bool:=rules.all fun r=>r.2.2.2.1 != 2||(List.range ((r.2.1-r.1).toNat+1)).all fun n=>kindOf (r.1+(n:Int)) != 2||(toOf (r.1+(n:Int))).all fun z=>kindOf z==1
set_option maxRecDepth 100000 in
theorem check_to:checkTo=true:=by decide +kernel
theorem rule_of_kind {c:Int} (h1:kindOf c≠1) (h4:barred c=false):∃r∈rules,fitsR r c=true∧r=ruleOf c:=by
 have hr:ruleOf c=(rules.find? (fitsR · c)).getD (0,0,false,1,0,0):=by unfold ruleOf;rw [h4];rfl
 unfold kindOf at h1
 cases h:rules.find? (fitsR · c) with
 | none=>rw [hr,h] at h1;exact absurd rfl h1
 | some r=>exact ⟨r,List.mem_of_find?_eq_some h,List.find?_some (p:=fun x=>fitsR x c) h,by rw [hr,h];rfl⟩
theorem kind_barred {c:Int} (h:barred c=true):kindOf c=4:=by unfold kindOf ruleOf;rw [h];rfl
theorem to_valid (c:Int):∀z∈toOf c,kindOf z=1:=by
 intro z hz
 by_cases h2:kindOf c=2
 ·have hb:barred c=false:=by
   cases hb:barred c with
   | false=>rfl
   | true=>rw [kind_barred hb] at h2;cases h2
  obtain ⟨r,hr,hf,he⟩:=rule_of_kind (by rw [h2];decide) hb
  have hk:r.2.2.2.1=2:=by rw [he];exact h2
  have hc:=check_to
  unfold checkTo at hc
  have h:=List.all_eq_true.1 hc r hr
  rw [hk] at h
  simp only [bne_self_eq_false,Bool.false_or] at h
  simp only [fitsR,Bool.and_eq_true,decide_eq_true_eq] at hf
  have hn:=List.all_eq_true.1 h (c-r.1).toNat (List.mem_range.2 (by omega))
  have e:r.1+((c-r.1).toNat:Int)=c:=by omega
  rw [e,h2] at hn
  simp only [bne_self_eq_false,Bool.false_or] at hn
  have:=List.all_eq_true.1 hn z hz
  exact eq_of_beq this
 ·unfold toOf at hz
  rw [if_neg h2] at hz
  cases hz
theorem signs_to {c:Int} (h:kindOf c=2):signs (ruleOf c) c=toOf c:=by unfold toOf;rw [if_pos h]
theorem signs_one {c:Int} (h:kindOf c=1):signs (ruleOf c) c=[c]:=by unfold signs;rw [if_pos (by exact h)]
theorem signs_none {c:Int} (h1:kindOf c≠1) (h2:kindOf c≠2):signs (ruleOf c) c=[]:=by unfold signs;rw [if_neg (by exact h1),if_neg (by exact h2)]
theorem map_valid (l:List Int):∀z∈mapOf l,kindOf z=1:=by
 intro z hz
 unfold mapOf at hz
 obtain ⟨c,_,hc⟩:=List.mem_flatMap.1 hz
 by_cases h1:kindOf c=1
 ·rw [signs_one h1,List.mem_singleton] at hc;rw [hc];exact h1
 ·by_cases h2:kindOf c=2
  ·rw [signs_to h2] at hc;exact to_valid c z hc
  ·rw [signs_none h1 h2] at hc;cases hc
theorem fine_of_valid {l:List Int} (h:∀z∈l,kindOf z=1):Fine l:=fun c hc=>by rw [h c hc];decide
theorem map_again:∀{l:List Int},(∀z∈l,kindOf z=1)→mapOf l=l
 | [],_=>rfl
 | c::l,h=>by
   unfold mapOf
   rw [List.flatMap_cons,signs_one (h c (List.mem_cons_self ..))]
   have:=map_again (l:=l) fun z hz=>h z (List.mem_cons_of_mem _ hz)
   unfold mapOf at this
   rw [this];rfl
def win (c lo hi:Int):Bool:=decide (lo≤c)&&decide (c≤hi)
theorem win_yes {c lo hi:Int} (h1:lo≤c) (h2:c≤hi):win c lo hi=true:=by simp [win,h1,h2]
theorem win_no {c lo hi:Int} (h:c < lo∨hi < c):win c lo hi=false:=by
 unfold win
 rcases h with h | h
 ·rw [decide_eq_false (by omega)];rfl
 ·rw [decide_eq_false (p:=c≤hi) (by omega),Bool.and_false]
def smallR (c:Int):Int :=
 if win c 65 90||(win c 192 222&&c != 215)||(win c 913 937&&c != 930)||win c 1040 1071 then c+32
 else if win c 1024 1039 then c+80
 else if c%2==0&&((win c 256 311&&c != 304)||win c 330 375) then c+1
 else if c%2==1&&(win c 313 328||win c 377 382) then c+1
 else if c==376 then 255
 else if c==383 then 115
 else 0
def toR (c:Int):List Int :=
 if 0 < smallR c then [smallR c]
 else if c==304 then [105,775]
 else if c==329 then [700,110]
 else if c==12290||c==65294||c==65377 then [46]
 else if win c 65281 65374 then [if smallR (c-65248)==0 then c-65248 else smallR (c-65248)]
 else if c==170 then [97]
 else if c==186 then [111]
 else if c==178||c==179 then [c-128]
 else if c==185 then [49]
 else if win c 9312 9320 then [c-9312+49]
 else if c==8462 then [104]
 else []
def kindR (c:Int):Int :=
 if c==173||c==8203||c==8288||win c 65024 65039||c==65279 then 3
 else if !isS c||win c 128 160||win c 57344 63743||win c 64976 65007||decide (983040≤c)||decide (65534≤c%65536) then 4
 else if 0 < (toR c).length then 2
 else 1
def alike (c:Int):Bool:=kindOf c==kindR c&&(kindR c != 2||toOf c==toR c)
theorem alike_low:(List.range 1072).all (fun n=>alike (n:Int))=true:=by decide +kernel
theorem alike_wide:(List.range 355).all (fun n=>alike (65024+(n:Int)))=true:=by decide +kernel
theorem alike_some:[8203,8288,8462,9312,9313,9314,9315,9316,9317,9318,9319,9320,12290].all (fun n=>alike n)=true:=by decide +kernel
theorem rule_gap (lo hi:Int) (h:rules.all (fun r=>decide (r.2.1 < lo)||decide (hi < r.1))=true) {c:Int} (h1:lo≤c) (h2:c≤hi) (hb:barred c=false):ruleOf c=(0,0,false,1,0,0):=by
 unfold ruleOf
 rw [hb,if_neg (by decide)]
 rw [List.find?_eq_none.2]
 ·rfl
 ·intro r hr
  have:=List.all_eq_true.1 h r hr
  simp only [Bool.or_eq_true,decide_eq_true_eq] at this
  simp only [fitsR,Bool.and_eq_true,decide_eq_true_eq]
  omega
theorem small_high {c:Int} (h:1072≤c):smallR c=0:=by
 have h1:(c==376)=false:=by rw [beq_eq_false_iff_ne];omega
 have h2:(c==383)=false:=by rw [beq_eq_false_iff_ne];omega
 unfold smallR
 rw [win_no (by omega),win_no (by omega),win_no (by omega),win_no (by omega),win_no (by omega),win_no (by omega),win_no (by omega),win_no (by omega),win_no (by omega),h1,h2]
 simp
theorem to_high {c:Int} (h:1072≤c) (h1:(c==8462)=false) (h2:win c 9312 9320=false) (h3:(c==12290)=false) (h4:(c==65377)=false) (h5:win c 65281 65374=false):toR c=[]:=by
 have e1:(c==304)=false:=by rw [beq_eq_false_iff_ne];omega
 have e2:(c==329)=false:=by rw [beq_eq_false_iff_ne];omega
 have e3:(c==170)=false:=by rw [beq_eq_false_iff_ne];omega
 have e4:(c==186)=false:=by rw [beq_eq_false_iff_ne];omega
 have e5:(c==178)=false:=by rw [beq_eq_false_iff_ne];omega
 have e6:(c==179)=false:=by rw [beq_eq_false_iff_ne];omega
 have e7:(c==185)=false:=by rw [beq_eq_false_iff_ne];omega
 have e8:(c==65294)=false:=by
  rw [beq_eq_false_iff_ne];intro e;subst e;revert h5;decide
 unfold toR
 rw [small_high h,e1,e2,e3,e4,e5,e6,e7,e8,h1,h2,h3,h4,h5]
 rfl
theorem kind_mid {c:Int} (h:1072≤c) (h1:(c==8203)=false) (h2:(c==8288)=false) (h3:win c 65024 65039=false) (h4:(c==65279)=false):kindR c=if !isS c||win c 57344 63743||win c 64976 65007||decide (983040≤c)||decide (65534≤c%65536) then 4 else if 0 < (toR c).length then 2 else 1:=by
 have e1:(c==173)=false:=by rw [beq_eq_false_iff_ne];omega
 unfold kindR
 rw [e1,h1,h2,h3,h4,win_no (lo:=128) (by omega),Bool.or_false (!isS c)]
 rfl
theorem alike_of {c:Int} (h:kindOf c=kindR c) (h2:kindR c≠2):alike c=true:=by
 unfold alike
 rw [h,beq_self_eq_true,bne_iff_ne.2 h2];rfl
theorem alike_gap (lo hi:Int) (h:rules.all (fun r=>decide (r.2.1 < lo)||decide (hi < r.1))=true) {c:Int} (h1:lo≤c) (h2:c≤hi) (hlo:1072≤lo)
 (g1:8203 < lo∨hi < 8203) (g2:8288 < lo∨hi < 8288) (g3:65039 < lo∨hi < 65024) (g4:65279 < lo∨hi < 65279) (g5:8462 < lo∨hi < 8462) (g6:9320 < lo∨hi < 9312) (g7:12290 < lo∨hi < 12290) (g8:65377 < lo∨hi < 65377) (g9:65374 < lo∨hi < 65281)
 (k1:63743 < lo∨hi < 57344) (k2:65007 < lo∨hi < 64976) (k3:hi < 983040):alike c=true:=by
 cases hb:barred c with
 | true =>
   have hk:=kind_barred hb
   have hR:kindR c=4:=by
    rw [kind_mid (by omega) (by rw [beq_eq_false_iff_ne];omega) (by rw [beq_eq_false_iff_ne];omega) (win_no (by omega)) (by rw [beq_eq_false_iff_ne];omega)]
    rw [if_pos]
    unfold barred at hb
    simp only [Bool.or_eq_true] at hb ⊢
    rcases hb with hb | hb
    ·exact .inl (.inl (.inl (.inl hb)))
    ·exact .inr hb
   exact alike_of (by rw [hk,hR]) (by rw [hR];decide)
 | false =>
   have hk:kindOf c=1:=by unfold kindOf;rw [rule_gap lo hi h h1 h2 hb]
   have hR:kindR c=1:=by
    rw [kind_mid (by omega) (by rw [beq_eq_false_iff_ne];omega) (by rw [beq_eq_false_iff_ne];omega) (win_no (by omega)) (by rw [beq_eq_false_iff_ne];omega)]
    unfold barred at hb
    simp only [Bool.or_eq_false_iff] at hb
    rw [hb.1,hb.2,win_no (by omega),win_no (by omega),decide_eq_false (by omega),to_high (by omega) (by rw [beq_eq_false_iff_ne];omega) (win_no (by omega)) (by rw [beq_eq_false_iff_ne];omega) (by rw [beq_eq_false_iff_ne];omega) (win_no (by omega))]
    rfl
   exact alike_of (by rw [hk,hR]) (by rw [hR];decide)
theorem alike_bad {c:Int} (h:1072≤c) (k:Nat) (hk:k < 34) (h4:(rules.getD k (0,0,false,1,0,0)).2.2.2.1=4) (hf:barred c=false→(∀r∈rules.take k,fitsR r c=false)∧fitsR (rules.getD k (0,0,false,1,0,0)) c=true)
 (g1:c≠8203) (g2:c≠8288) (g3:65039 < c∨c < 65024) (g4:c≠65279) (hR:win c 57344 63743=true∨win c 64976 65007=true∨983040≤c):alike c=true:=by
 have hkd:kindOf c=4:=by
  cases hb:barred c with
  | true=>exact kind_barred hb
  | false=>unfold kindOf;rw [rule_found k c hb (hf hb).1 hk (hf hb).2,h4]
 have hRd:kindR c=4:=by
  rw [kind_mid h (by rw [beq_eq_false_iff_ne];exact g1) (by rw [beq_eq_false_iff_ne];exact g2) (win_no (by omega)) (by rw [beq_eq_false_iff_ne];exact g4),if_pos]
  simp only [Bool.or_eq_true,decide_eq_true_eq]
  rcases hR with x | x | x
  ·exact .inl (.inl (.inl (.inr x)))
  ·exact .inl (.inl (.inr x))
  ·exact .inl (.inr x)
 exact alike_of (by rw [hkd,hRd]) (by rw [hRd];decide)
theorem fits_out (lo hi:Int) (k:Nat) (h:(rules.take k).all (fun r=>decide (r.2.1 < lo)||decide (hi < r.1))=true) {c:Int} (h1:lo≤c) (h2:c≤hi):∀r∈rules.take k,fitsR r c=false:=by
 intro r hr
 have:=List.all_eq_true.1 h r hr
 simp only [Bool.or_eq_true,decide_eq_true_eq] at this
 cases hq:fitsR r c with
 | false=>rfl
 | true =>
   simp only [fitsR,Bool.and_eq_true,decide_eq_true_eq] at hq
   omega
theorem alike_none {c:Int} (h:isS c=false):alike c=true:=by
 have hb:barred c=true:=by unfold barred;rw [h];rfl
 have hn:¬(0≤c∧c≤1114111∧(c < 55296∨57343 < c)):=fun g=>by rw [isS_iff.2 g] at h;cases h
 have hR:kindR c=4:=by
  unfold kindR
  rw [if_neg,if_pos]
  ·rw [h];rfl
  ·simp only [Bool.or_eq_true,beq_iff_eq,win,Bool.and_eq_true,decide_eq_true_eq]
   omega
 exact alike_of (by rw [kind_barred hb,hR]) (by rw [hR];decide)
theorem alike_all (c:Int):alike c=true:=by
 cases hs:isS c with
 | false=>exact alike_none hs
 | true =>
   obtain ⟨h0,h1,h2⟩:=isS_iff.1 hs
   by_cases q1:c < 1072
   ·have:=List.all_eq_true.1 alike_low c.toNat (List.mem_range.2 (by omega))
    rwa [show ((c.toNat:Nat):Int)=c by omega] at this
   by_cases q2:65024≤c∧c≤65378
   ·have:=List.all_eq_true.1 alike_wide (c-65024).toNat (List.mem_range.2 (by omega))
    rwa [show (65024:Int)+(((c-65024).toNat:Nat):Int)=c by omega] at this
   by_cases q3:c∈([8203,8288,8462,9312,9313,9314,9315,9316,9317,9318,9319,9320,12290]:List Int)
   ·exact List.all_eq_true.1 alike_some c q3
   simp only [List.mem_cons,List.not_mem_nil,or_false,not_or] at q3
   have hc:(1072≤c∧c≤8202)∨(8204≤c∧c≤8287)∨(8289≤c∧c≤8461)∨(8463≤c∧c≤9311)∨(9321≤c∧c≤12289)∨(12291≤c∧c≤57343)∨(57344≤c∧c≤63743)∨(63744≤c∧c≤64975)∨(64976≤c∧c≤65007)∨(65008≤c∧c≤65023)∨(65379≤c∧c≤983039)∨(983040≤c∧c≤1114111):=by omega
   clear q1 q2 q3 h0 h1 h2 hs
   rcases hc with ⟨a,b⟩ | ⟨a,b⟩ | ⟨a,b⟩ | ⟨a,b⟩ | ⟨a,b⟩ | ⟨a,b⟩ | ⟨a,b⟩ | ⟨a,b⟩ | ⟨a,b⟩ | ⟨a,b⟩ | ⟨a,b⟩ | ⟨a,b⟩
   ·exact alike_gap 1072 8202 (by decide +kernel) a b (by decide) (by decide) (by decide) (by decide) (by decide) (by decide) (by decide) (by decide) (by decide) (by decide) (by decide) (by decide) (by decide)
   ·exact alike_gap 8204 8287 (by decide +kernel) a b (by decide) (by decide) (by decide) (by decide) (by decide) (by decide) (by decide) (by decide) (by decide) (by decide) (by decide) (by decide) (by decide)
   ·exact alike_gap 8289 8461 (by decide +kernel) a b (by decide) (by decide) (by decide) (by decide) (by decide) (by decide) (by decide) (by decide) (by decide) (by decide) (by decide) (by decide) (by decide)
   ·exact alike_gap 8463 9311 (by decide +kernel) a b (by decide) (by decide) (by decide) (by decide) (by decide) (by decide) (by decide) (by decide) (by decide) (by decide) (by decide) (by decide) (by decide)
   ·exact alike_gap 9321 12289 (by decide +kernel) a b (by decide) (by decide) (by decide) (by decide) (by decide) (by decide) (by decide) (by decide) (by decide) (by decide) (by decide) (by decide) (by decide)
   ·exact alike_gap 12291 57343 (by decide +kernel) a b (by decide) (by decide) (by decide) (by decide) (by decide) (by decide) (by decide) (by decide) (by decide) (by decide) (by decide) (by decide) (by decide)
   ·exact alike_bad (by omega) 6 (by decide) (by decide) (fun _=>⟨fits_out 57344 63743 6 (by decide +kernel) a b,by simp [rules,fitsR];omega⟩) (by omega) (by omega) (by omega) (by omega) (.inl (win_yes a b))
   ·exact alike_gap 63744 64975 (by decide +kernel) a b (by decide) (by decide) (by decide) (by decide) (by decide) (by decide) (by decide) (by decide) (by decide) (by decide) (by decide) (by decide) (by decide)
   ·exact alike_bad (by omega) 7 (by decide) (by decide) (fun _=>⟨fits_out 64976 65007 7 (by decide +kernel) a b,by simp [rules,fitsR];omega⟩) (by omega) (by omega) (by omega) (by omega) (.inr (.inl (win_yes a b)))
   ·exact alike_gap 65008 65023 (by decide +kernel) a b (by decide) (by decide) (by decide) (by decide) (by decide) (by decide) (by decide) (by decide) (by decide) (by decide) (by decide) (by decide) (by decide)
   ·exact alike_gap 65379 983039 (by decide +kernel) a b (by decide) (by decide) (by decide) (by decide) (by decide) (by decide) (by decide) (by decide) (by decide) (by decide) (by decide) (by decide) (by decide)
   ·exact alike_bad (by omega) 8 (by decide) (by decide) (fun _=>⟨fits_out 983040 1114111 8 (by decide +kernel) a b,by simp [rules,fitsR];omega⟩) (by omega) (by omega) (by omega) (by omega) (.inr (.inr a))
theorem kind_alike (c:Int):kindR c=kindOf c:=by
 have:=alike_all c
 unfold alike at this
 rw [Bool.and_eq_true] at this
 exact (eq_of_beq this.1).symm
end Go.Proofs.YtigfgloenjoeoaaGreatDoor
