import Derived.Test.YtigfgloenjoeoaaGreatDoorLaBT
import Derived.Test.YtigfgloenjoeoaaGreatDoorLaAB
import Derived.Test.YtigfgloenjoeoaaGreatDoorLaBQ
set_option linter.unusedVariables false
set_option linter.unusedSimpArgs false
set_option maxRecDepth 20000
set_option maxHeartbeats 16000000
namespace Go.Proofs.YtigfgloenjoeoaaGreatDoor
open Go.RowKit Go.Shelf
theorem url_range {w:World} {R:Nat} {u:UrlN} {pv:Value} (h:Bc UT w R (urlC u pv)):w.rangeAt R 0 (urlC u pv):=fun j v hv=>by rw [Nat.zero_add];exact (h.cell j hv).1
theorem url_load {w:World} {R:Nat} {u:UrlN} {pv:Value} (h:Bc UT w R (urlC u pv)):(loadVar UT ⟨R,0,none⟩).run Tryz.prog w=.ok (.agg (urlC u pv).toArray) w :=
 run_loadVar_mid w R 0 UT (urlC u pv) _ (url_range h) Tryz.underlying29 rfl info_url
theorem uread_long (s:ByteArray) {b:UrlN} {has:Bool} {w:World} {B:Nat} (r0:Array Value) (hB:B≤w.heap.size) (h:4000 < s.size) :
 Calls Tryz.prog 37 #[.string s,.agg r0] w fun e w'=>ReadU B (urlR s.data.toList b has) w e w':=by
 have HX:Hid (urlR s.data.toList b has=(url0,3)):=by show _=_;unfold urlR;rw [if_pos (by rw [bytes_num];exact h)]
 have h4:decide ((4000:Int) < (s.size:Int))=true:=decide_eq_true (by omega)
 have hi:(4000:Int) < (s.size:Int):=by omega
 have HB:=hid hB
 clear h hB
 go_enter Tryz.func37,Tryz.ntmps37
 go_upto_region 1 with fail
 have HG:=hid (beg w r0)
 generalize ((w.alloc (.cells r0 RT)).alloc (.cells #[.string ⟨#[]⟩,.string ⟨#[]⟩,.string ⟨#[]⟩,.bool false,.int .i64 0,.string ⟨#[]⟩,.int .u32 0,.int .u16 0,.int .u16 0,.int .u16 0,.int .u16 0,.int .u16 0,.int .u16 0,.int .u16 0,.int .u16 0,.int .i64 0,.bool false,.string ⟨#[]⟩,.slice none 0 0,.bool false,.string ⟨#[]⟩,.bool false,.string ⟨#[]⟩] UT))=w2 at *
 obtain ⟨R,hR⟩:∃R,w.heap.size+1=R:=⟨_,rfl⟩
 rw [hR] at HG ⊢
 clear hR
 obtain ⟨G,hGw⟩:∃G,w.heap.size=G:=⟨_,rfl⟩
 have hBG:B≤G:=by rw [← hGw];exact HB.out
 have HBw:Hid (w.heap.size=G):=hGw
 rw [hGw] at HG ⊢
 clear hGw
 have hBR:B≤R:=by have h1:=HG.out.r;have h2:=HB.out;omega
 have HBR:=hid hBR
 have HBG:=hid hBG
 have HO:Hid ((#[.string ⟨#[]⟩,.string ⟨#[]⟩,.string ⟨#[]⟩,.bool false,.int .i64 0,.string ⟨#[]⟩,.int .u32 0,.int .u16 0,.int .u16 0,.int .u16 0,.int .u16 0,.int .u16 0,.int .u16 0,.int .u16 0,.int .u16 0,.int .i64 0,.bool false,.string ⟨#[]⟩,.slice none 0 0,.bool false,.string ⟨#[]⟩,.bool false,.string ⟨#[]⟩]:Array Value).all (·.oneCell')=true):=hid (all_oneCell_toArray (List.all_eq_true.1 (show (urlC url0 (.slice none 0 0)).all (·.oneCell')=true from rfl)))
 have HRc:=hid (HG.out.rc)
 have HBl:=hid (HG.out.bel)
 go_upto_region 2 with fail
 clear h4 hi HG hBR hBG
 have HT:=hid (url_there HRc.out)
 have HS:Hid (Bc UT (w2.setCells R 0 [.string ⟨#[]⟩,.string ⟨#[]⟩,.string ⟨#[]⟩,.bool false,.int .i64 0,.string ⟨#[]⟩,.int .u32 0,.int .u16 0,.int .u16 0,.int .u16 0,.int .u16 0,.int .u16 0,.int .u16 0,.int .u16 0,.int .u16 0,.int .i64 0,.bool false,.string ⟨#[]⟩,.slice none 0 0,.bool false,.string ⟨#[]⟩,.bool false,.string ⟨#[]⟩]) R (urlC url0 (.slice none 0 0))∧Below B w2 (w2.setCells R 0 [.string ⟨#[]⟩,.string ⟨#[]⟩,.string ⟨#[]⟩,.bool false,.int .i64 0,.string ⟨#[]⟩,.int .u32 0,.int .u16 0,.int .u16 0,.int .u16 0,.int .u16 0,.int .u16 0,.int .u16 0,.int .u16 0,.int .u16 0,.int .i64 0,.bool false,.string ⟨#[]⟩,.slice none 0 0,.bool false,.string ⟨#[]⟩,.bool false,.string ⟨#[]⟩])):=hid (url_store (v:=url0) (pv:=.slice none 0 0) HRc.out HBR.out)
 go_wp2_with (refine wpList_store_mid rfl 29 _ _ rfl R 0 #[.string ⟨#[]⟩,.string ⟨#[]⟩,.string ⟨#[]⟩,.bool false,.int .i64 0,.string ⟨#[]⟩,.int .u32 0,.int .u16 0,.int .u16 0,.int .u16 0,.int .u16 0,.int .u16 0,.int .u16 0,.int .u16 0,.int .u16 0,.int .i64 0,.bool false,.string ⟨#[]⟩,.slice none 0 0,.bool false,.string ⟨#[]⟩,.bool false,.string ⟨#[]⟩] rfl rfl HT.out info_url HO.out ?_;try simp only [List.toList_toArray];generalize World.setCells w2 R 0 _=w3 at *)
 refine bodyPost_ret (results_ct Tryz.results37 rfl (url_load HS.out.1) rfl) rfl ?_
 show ReadU B _ w _ w3
 rw [HX.out]
 exact ⟨⟨.slice none 0 0,rfl,Own.nil _ _ _ _⟩,(HBl.out.mono HB.out).trans HS.out.2⟩
theorem sets_other {R k:Nat} (hk:k≠R):∀(l:List (Nat×Value)) (w:World),(sets R l w).heap[k]? = w.heap[k]?
 | [],w=>rfl
 | p::l,w=>(sets_other hk l _).trans (heap_setCell_other w _ k _ hk)
theorem path_store {w:World} {B R:Nat} {v:Value} {l:List (List UInt8)} {xs:List Value} (hq:PathO w B v l) (h:Bc UT w R xs) (vs:List Value):PathO (w.setCells R 0 vs) B v l :=
 own_kept hq (fun k e=>by rw [setCells_sets];exact sets_other (typ_apart h (by obtain ⟨cs,fr,hh⟩:=(own_trow hq).2 k e;exact ⟨cs,_,fr,hh,by decide⟩)) _ _)
theorem uread_go (s:ByteArray) {b:UrlN} {has:Bool} {w:World} {B:Nat} {bpv:Value} (r0:Array Value) (hr0:r0=(rdC (x0 b has) (.slice none 0 0) bpv (.slice none 0 0) (.slice none 0 0) (.slice none 0 0) (.slice none 0 0)).toArray) (hB:B≤w.heap.size) (hT:TB B w) (hp:PathO w B bpv b.path) (hb:b.path.length≤90000) (h:s.size≤4000) :
 Calls Tryz.prog 37 #[.string s,.agg r0] w fun e w'=>ReadU B (urlR s.data.toList b has) w e w':=by
 have h4:decide ((4000:Int) < (s.size:Int))=false:=decide_eq_false (by omega)
 have hi:(s.size:Int)≤4000:=by omega
 have HB:=hid hB
 have HTb:=hid hT
 have HP:=hid hp
 have HR0:=hid hr0
 have HSg:=hid (fun w=>signs_calls s w h)
 have HRun:=hid (run_begin s.data.toList b has (by rw [bytes_num];exact h))
 have HLen:=hid (Nat.le_trans (strip_len s.data.toList) (by rw [bytes_num];exact h))
 have HPos:=hid (strip_pos s.data.toList)
 have Hb:=hid hb
 clear h hB hT hp hr0 hb
 generalize urlR s.data.toList b has=A at *
 go_enter Tryz.func37,Tryz.ntmps37
 go_upto_region 1 with fail
 have HG:=hid (beg w r0)
 generalize ((w.alloc (.cells r0 RT)).alloc (.cells #[.string ⟨#[]⟩,.string ⟨#[]⟩,.string ⟨#[]⟩,.bool false,.int .i64 0,.string ⟨#[]⟩,.int .u32 0,.int .u16 0,.int .u16 0,.int .u16 0,.int .u16 0,.int .u16 0,.int .u16 0,.int .u16 0,.int .u16 0,.int .i64 0,.bool false,.string ⟨#[]⟩,.slice none 0 0,.bool false,.string ⟨#[]⟩,.bool false,.string ⟨#[]⟩] UT))=w2 at *
 obtain ⟨R,hR⟩:∃R,w.heap.size+1=R:=⟨_,rfl⟩
 rw [hR] at HG ⊢
 clear hR
 obtain ⟨G,hGw⟩:∃G,w.heap.size=G:=⟨_,rfl⟩
 have hBG:B≤G:=by rw [← hGw];exact HB.out
 have HBw:Hid (w.heap.size=G):=hGw
 rw [hGw] at HG ⊢
 clear hGw
 have hBR:B≤R:=by have h1:=HG.out.r;have h2:=HB.out;omega
 have HBR:=hid hBR
 have HBG:=hid hBG
 have HO:Hid ((#[.string ⟨#[]⟩,.string ⟨#[]⟩,.string ⟨#[]⟩,.bool false,.int .i64 0,.string ⟨#[]⟩,.int .u32 0,.int .u16 0,.int .u16 0,.int .u16 0,.int .u16 0,.int .u16 0,.int .u16 0,.int .u16 0,.int .u16 0,.int .i64 0,.bool false,.string ⟨#[]⟩,.slice none 0 0,.bool false,.string ⟨#[]⟩,.bool false,.string ⟨#[]⟩]:Array Value).all (·.oneCell')=true):=hid (all_oneCell_toArray (List.all_eq_true.1 (show (urlC url0 (.slice none 0 0)).all (·.oneCell')=true from rfl)))
 have HGc:Hid (Bc RT w2 G (rdC (x0 b has) (.slice none 0 0) bpv (.slice none 0 0) (.slice none 0 0) (.slice none 0 0) (.slice none 0 0))):=by
  have:=HG.out.gc
  rw [HR0.out] at this
  exact this
 have HRc:=hid (HG.out.rc)
 have HBl:=hid (HG.out.bel)
 have HP2:Hid (PathO w2 B bpv b.path):=hid (HP.out.below HBl.out)
 have HT2:=hid (HTb.out.below (HBl.out.mono HB.out))
 clear HG hBR hBG HTb HP
 go_wp2_with fail
 refine (HSg.out _).mono ?_
 rintro e w3 ⟨⟨v0,rfl,hv,hvk⟩,hb3⟩
 obtain ⟨va,vcap,hve,-⟩:=hv.1
 subst hve
 have h2B:B≤w2.heap.size:=Nat.le_trans HBG.out (Nat.le_of_lt HGc.out.lt)
 have HGc3:=hid (HGc.out.below hb3)
 have HRc3:=hid (HRc.out.below hb3)
 have HBl3:=hid ((HBl.out.mono HB.out).trans (hb3.mono h2B))
 have HRd:=hid (rd_begin (w:=w) (HT2.out.below (hb3.mono h2B)) HBG.out HGc3.out (HP2.out.below hb3) hv)
 have HKp:Hid (Keep w3 ((w3.setCell ⟨G,0,none⟩ (.slice va (stripRU s.data.toList).length vcap)).setCell ⟨G,41,none⟩ (.int .i64 (-1)))):=hid ((keepSet HGc3.out).trans (keepSet (HGc3.out.set 0 (.slice va (stripRU s.data.toList).length vcap))))
 have HBl4:Hid (Below B w ((w3.setCell ⟨G,0,none⟩ (.slice va (stripRU s.data.toList).length vcap)).setCell ⟨G,41,none⟩ (.int .i64 (-1)))):=hid ((HBl3.out.trans (setB w3 HBG.out 0 (.slice va (stripRU s.data.toList).length vcap))).trans (setB _ HBG.out 41 _))
 have c0:=(HGc3.out.cell 0 rfl).1
 have f0:=(HGc3.out.cell 0 rfl).2
 have c41:=((HGc3.out.set 0 (.slice va (stripRU s.data.toList).length vcap)).cell 41 rfl).1
 have f41:=((HGc3.out.set 0 (.slice va (stripRU s.data.toList).length vcap)).cell 41 rfl).2
 clear hb3 h2B hv hvk HGc HRc HBl HP2 HT2 HSg HGc3 HBl3
 go_wp2_with fail
 have HRc4:=hid (HRc3.out.kept (HKp.out R _ UT _ (Or.inr rfl) HRc3.out))
 clear HKp HRc3
 try clear c0
 try clear c41
 try clear f0
 try clear f41
 generalize (w3.setCell ⟨G,0,none⟩ (.slice va (stripRU s.data.toList).length vcap)).setCell ⟨G,41,none⟩ (.int .i64 (-1))=w4 at *
 refine (urun_calls HRd.out HRun.out HPos.out HLen.out Hb.out pathQ_eq).mono ?_
 rintro e w5 ⟨hb5,hk5,n,rfl,hcase⟩
 have HRc5:=hid (HRc4.out.kept (hk5 R _ UT _ (Or.inr rfl) HRc4.out))
 have HBl5:=hid (HBl4.out.trans hb5)
 clear hb5 hk5 HRc4 HBl4 HRd
 rcases hcase with ⟨hn,hA⟩ | ⟨hn,x',⟨tv,bpv',upv,bv,uv,pv,hs⟩,hA⟩
 ·have HA:=hid hA
  have e1:((n:Int) != 0)=true:=by rw [bne_iff_ne];omega
  clear hA hn
  go_upto_region 7 with fail
  clear h4 hi e1
  have HT:=hid (url_there HRc5.out)
  have HS:Hid (Bc UT (w5.setCells R 0 [.string ⟨#[]⟩,.string ⟨#[]⟩,.string ⟨#[]⟩,.bool false,.int .i64 0,.string ⟨#[]⟩,.int .u32 0,.int .u16 0,.int .u16 0,.int .u16 0,.int .u16 0,.int .u16 0,.int .u16 0,.int .u16 0,.int .u16 0,.int .i64 0,.bool false,.string ⟨#[]⟩,.slice none 0 0,.bool false,.string ⟨#[]⟩,.bool false,.string ⟨#[]⟩]) R (urlC url0 (.slice none 0 0))∧Below B w5 (w5.setCells R 0 [.string ⟨#[]⟩,.string ⟨#[]⟩,.string ⟨#[]⟩,.bool false,.int .i64 0,.string ⟨#[]⟩,.int .u32 0,.int .u16 0,.int .u16 0,.int .u16 0,.int .u16 0,.int .u16 0,.int .u16 0,.int .u16 0,.int .u16 0,.int .i64 0,.bool false,.string ⟨#[]⟩,.slice none 0 0,.bool false,.string ⟨#[]⟩,.bool false,.string ⟨#[]⟩])):=hid (url_store (v:=url0) (pv:=.slice none 0 0) HRc5.out HBR.out)
  go_wp2_with (refine wpList_store_mid rfl 29 _ _ rfl R 0 #[.string ⟨#[]⟩,.string ⟨#[]⟩,.string ⟨#[]⟩,.bool false,.int .i64 0,.string ⟨#[]⟩,.int .u32 0,.int .u16 0,.int .u16 0,.int .u16 0,.int .u16 0,.int .u16 0,.int .u16 0,.int .u16 0,.int .u16 0,.int .i64 0,.bool false,.string ⟨#[]⟩,.slice none 0 0,.bool false,.string ⟨#[]⟩,.bool false,.string ⟨#[]⟩] rfl rfl HT.out info_url HO.out ?_;try simp only [List.toList_toArray];generalize World.setCells w5 R 0 _=w6 at *)
  refine bodyPost_ret (results_ct Tryz.results37 rfl (url_load HS.out.1) rfl) rfl ?_
  show ReadU B _ w _ w6
  rw [HA.out]
  exact ⟨⟨.slice none 0 0,rfl,Own.nil _ _ _ _⟩,HBl5.out.trans HS.out.2⟩
 ·subst hn
  have HA:=hid hA
  have HQ:=hid hs.r.q
  have HUr:=hid hs.u_range
  have c44:=hs.at 44 rfl
  obtain ⟨a,cap,hupv,-⟩:=HQ.out.row
  subst hupv
  clear hA hs
  by_cases hl:256 < x'.m.u.path.length
  ·have e2:decide ((256:Int) < (x'.m.u.path.length:Int))=true:=decide_eq_true (by omega)
   have HX:Hid (A=(url0,11)):=by show _=_;rw [← HA.out,if_pos hl]
   have i2:(256:Int) < (x'.m.u.path.length:Int):=by omega
   clear hl
   go_upto_region 9 with fail
   clear h4 hi e2 c44 i2
   have HT:=hid (url_there HRc5.out)
   have HS:Hid (Bc UT (w5.setCells R 0 [.string ⟨#[]⟩,.string ⟨#[]⟩,.string ⟨#[]⟩,.bool false,.int .i64 0,.string ⟨#[]⟩,.int .u32 0,.int .u16 0,.int .u16 0,.int .u16 0,.int .u16 0,.int .u16 0,.int .u16 0,.int .u16 0,.int .u16 0,.int .i64 0,.bool false,.string ⟨#[]⟩,.slice none 0 0,.bool false,.string ⟨#[]⟩,.bool false,.string ⟨#[]⟩]) R (urlC url0 (.slice none 0 0))∧Below B w5 (w5.setCells R 0 [.string ⟨#[]⟩,.string ⟨#[]⟩,.string ⟨#[]⟩,.bool false,.int .i64 0,.string ⟨#[]⟩,.int .u32 0,.int .u16 0,.int .u16 0,.int .u16 0,.int .u16 0,.int .u16 0,.int .u16 0,.int .u16 0,.int .u16 0,.int .i64 0,.bool false,.string ⟨#[]⟩,.slice none 0 0,.bool false,.string ⟨#[]⟩,.bool false,.string ⟨#[]⟩])):=hid (url_store (v:=url0) (pv:=.slice none 0 0) HRc5.out HBR.out)
   go_wp2_with (refine wpList_store_mid rfl 29 _ _ rfl R 0 #[.string ⟨#[]⟩,.string ⟨#[]⟩,.string ⟨#[]⟩,.bool false,.int .i64 0,.string ⟨#[]⟩,.int .u32 0,.int .u16 0,.int .u16 0,.int .u16 0,.int .u16 0,.int .u16 0,.int .u16 0,.int .u16 0,.int .u16 0,.int .i64 0,.bool false,.string ⟨#[]⟩,.slice none 0 0,.bool false,.string ⟨#[]⟩,.bool false,.string ⟨#[]⟩] rfl rfl HT.out info_url HO.out ?_;try simp only [List.toList_toArray];generalize World.setCells w5 R 0 _=w6 at *)
   refine bodyPost_ret (results_ct Tryz.results37 rfl (url_load HS.out.1) rfl) rfl ?_
   show ReadU B _ w _ w6
   rw [HX.out]
   exact ⟨⟨.slice none 0 0,rfl,Own.nil _ _ _ _⟩,HBl5.out.trans HS.out.2⟩
  ·have e2:decide ((256:Int) < (x'.m.u.path.length:Int))=false:=decide_eq_false (by omega)
   have HX:Hid (A=(x'.m.u,0)):=by show _=_;rw [← HA.out,if_neg hl]
   have i2:¬(256:Int) < (x'.m.u.path.length:Int):=by omega
   clear hl
   have HT:=hid (url_there HRc5.out)
   have HS:=hid (url_store (v:=x'.m.u) (pv:=.slice a x'.m.u.path.length cap) HRc5.out HBR.out)
   have HPs:=hid (path_store HQ.out HRc5.out (urlC x'.m.u (.slice a x'.m.u.path.length cap)))
   have HO2:Hid ((urlC x'.m.u (.slice a x'.m.u.path.length cap)).toArray.all (·.oneCell')=true):=hid (all_oneCell_toArray (List.all_eq_true.1 rfl))
   go_upto_region 10 with fail
   clear h4 hi e2 c44 i2
   generalize hU:urlC x'.m.u (.slice a x'.m.u.path.length cap)=U at *
   go_wp2_with (first | refine wpList_load_mid rfl 29 _ rfl G 26 rfl U _ HUr.out Tryz.underlying29 rfl (by rw [← hU];exact info_url) ?_ | (refine wpList_store_mid rfl 29 _ _ rfl R 0 U.toArray rfl rfl (by rw [← hU];exact HT.out) (by rw [← hU];exact info_url) HO2.out ?_;try simp only [List.toList_toArray];generalize World.setCells w5 R 0 _=w6 at *))
   have hU1:=HS.out.1
   rw [← hU] at hU1
   refine bodyPost_ret (results_ct Tryz.results37 rfl (url_load hU1) rfl) rfl ?_
   show ReadU B _ w _ w6
   rw [HX.out]
   exact ⟨⟨_,rfl,HPs.out⟩,HBl5.out.trans HS.out.2⟩
theorem uread_calls (s:ByteArray) {b:UrlN} {has:Bool} {w:World} {B:Nat} {bpv:Value} (r0:Array Value) (hr0:r0=(rdC (x0 b has) (.slice none 0 0) bpv (.slice none 0 0) (.slice none 0 0) (.slice none 0 0) (.slice none 0 0)).toArray) (hB:B≤w.heap.size) (hT:TB B w) (hp:PathO w B bpv b.path) (hb:b.path.length≤90000) :
 Calls Tryz.prog 37 #[.string s,.agg r0] w fun e w'=>ReadU B (urlR s.data.toList b has) w e w':=by
 by_cases h:4000 < s.size
 ·exact uread_long s r0 hB h
 ·exact uread_go s r0 hr0 hB hT hp hb (by omega)
def zrd:Array Value:=#[.slice none 0 0,.int .i64 0,.string ⟨#[]⟩,.string ⟨#[]⟩,.string ⟨#[]⟩,.bool false,.int .i64 0,.string ⟨#[]⟩,.int .u32 0,.int .u16 0,.int .u16 0,.int .u16 0,.int .u16 0,.int .u16 0,.int .u16 0,.int .u16 0,.int .u16 0,.int .i64 0,.bool false,.string ⟨#[]⟩,.slice none 0 0,.bool false,.string ⟨#[]⟩,.bool false,.string ⟨#[]⟩,.bool false,.string ⟨#[]⟩,.string ⟨#[]⟩,.string ⟨#[]⟩,.bool false,.int .i64 0,.string ⟨#[]⟩,.int .u32 0,.int .u16 0,.int .u16 0,.int .u16 0,.int .u16 0,.int .u16 0,.int .u16 0,.int .u16 0,.int .u16 0,.int .i64 0,.bool false,.string ⟨#[]⟩,.slice none 0 0,.bool false,.string ⟨#[]⟩,.bool false,.string ⟨#[]⟩,.slice none 0 0,.slice none 0 0,.slice none 0 0,.bool false,.bool false,.bool false]
theorem zrd_is:zrd=(rdC (x0 url0 false) (.slice none 0 0) (.slice none 0 0) (.slice none 0 0) (.slice none 0 0) (.slice none 0 0) (.slice none 0 0)).toArray:=rfl
theorem url_one (u:UrlN) (pv:Value) (h:pv.oneCell'=true):((urlC u pv).toArray.all (·.oneCell')=true):=all_oneCell_toArray (List.all_eq_true.1 (by unfold urlC;simp [List.all,Value.oneCell',u16v];cases pv<;>first | rfl | exact h))
theorem uparse_calls (s:ByteArray) (w:World) (T:TabR w) :
 Calls Tryz.prog 23 #[.string s] w fun e w'=>ReadU w.heap.size (urlR s.data.toList url0 false) w e w':=by
 have hb2:Below w.heap.size w (w.alloc (.cells #[.string ⟨#[]⟩,.string ⟨#[]⟩,.string ⟨#[]⟩,.bool false,.int .i64 0,.string ⟨#[]⟩,.int .u32 0,.int .u16 0,.int .u16 0,.int .u16 0,.int .u16 0,.int .u16 0,.int .u16 0,.int .u16 0,.int .u16 0,.int .i64 0,.bool false,.string ⟨#[]⟩,.slice none 0 0,.bool false,.string ⟨#[]⟩,.bool false,.string ⟨#[]⟩] UT)):=(Below.refl _ _).alloc (Nat.le_refl _) _
 have HB2:=hid hb2
 have HT2:=hid (T.below hb2)
 have HRc:Hid (Bc UT (w.alloc (.cells #[.string ⟨#[]⟩,.string ⟨#[]⟩,.string ⟨#[]⟩,.bool false,.int .i64 0,.string ⟨#[]⟩,.int .u32 0,.int .u16 0,.int .u16 0,.int .u16 0,.int .u16 0,.int .u16 0,.int .u16 0,.int .u16 0,.int .u16 0,.int .i64 0,.bool false,.string ⟨#[]⟩,.slice none 0 0,.bool false,.string ⟨#[]⟩,.bool false,.string ⟨#[]⟩] UT)) w.heap.size (urlC url0 (.slice none 0 0))):=hid (heap_alloc_new w _)
 have HRd:=hid (uread_calls s (b:=url0) (has:=false) (w:=(w.alloc (.cells #[.string ⟨#[]⟩,.string ⟨#[]⟩,.string ⟨#[]⟩,.bool false,.int .i64 0,.string ⟨#[]⟩,.int .u32 0,.int .u16 0,.int .u16 0,.int .u16 0,.int .u16 0,.int .u16 0,.int .u16 0,.int .u16 0,.int .u16 0,.int .i64 0,.bool false,.string ⟨#[]⟩,.slice none 0 0,.bool false,.string ⟨#[]⟩,.bool false,.string ⟨#[]⟩] UT))) (B:=(w.alloc (.cells #[.string ⟨#[]⟩,.string ⟨#[]⟩,.string ⟨#[]⟩,.bool false,.int .i64 0,.string ⟨#[]⟩,.int .u32 0,.int .u16 0,.int .u16 0,.int .u16 0,.int .u16 0,.int .u16 0,.int .u16 0,.int .u16 0,.int .u16 0,.int .i64 0,.bool false,.string ⟨#[]⟩,.slice none 0 0,.bool false,.string ⟨#[]⟩,.bool false,.string ⟨#[]⟩] UT)).heap.size) zrd zrd_is (Nat.le_refl _) (TB.new HT2.out) (Own.nil _ _ _ _) (by decide))
 unfold zrd at HRd
 have HLt:Hid (w.heap.size≤(w.alloc (.cells #[.string ⟨#[]⟩,.string ⟨#[]⟩,.string ⟨#[]⟩,.bool false,.int .i64 0,.string ⟨#[]⟩,.int .u32 0,.int .u16 0,.int .u16 0,.int .u16 0,.int .u16 0,.int .u16 0,.int .u16 0,.int .u16 0,.int .u16 0,.int .i64 0,.bool false,.string ⟨#[]⟩,.slice none 0 0,.bool false,.string ⟨#[]⟩,.bool false,.string ⟨#[]⟩] UT)).heap.size):=hid hb2.size
 clear hb2 T HT2
 generalize urlR s.data.toList url0 false=A at *
 go_enter Tryz.func23,Tryz.ntmps23
 go_upto_region 1 with fail
 generalize w.alloc (.cells #[.string ⟨#[]⟩,.string ⟨#[]⟩,.string ⟨#[]⟩,.bool false,.int .i64 0,.string ⟨#[]⟩,.int .u32 0,.int .u16 0,.int .u16 0,.int .u16 0,.int .u16 0,.int .u16 0,.int .u16 0,.int .u16 0,.int .u16 0,.int .i64 0,.bool false,.string ⟨#[]⟩,.slice none 0 0,.bool false,.string ⟨#[]⟩,.bool false,.string ⟨#[]⟩] UT)=w2 at *
 obtain ⟨R,hR⟩:∃R,w.heap.size=R:=⟨_,rfl⟩
 rw [hR] at HRc HLt HB2 ⊢
 have HR:Hid (w.heap.size=R):=hid hR
 clear hR
 go_wp2_with fail
 refine HRd.out.mono ?_
 rintro e w3 ⟨⟨pv,rfl,hp⟩,hb⟩
 have HRc3:=hid (HRc.out.below hb)
 have HB3:=hid (HB2.out.trans (hb.mono HLt.out))
 have HT:=hid (url_there HRc3.out)
 have HS:=hid (url_store (v:=A.1) (pv:=pv) HRc3.out (Nat.le_refl R))
 have HP:=hid ((path_store hp HRc3.out (urlC A.1 pv)).mono (base':=R) HLt.out)
 have hpv:pv.oneCell'=true:=by obtain ⟨a,cap,hpv,-⟩:=hp.row;rw [hpv];rfl
 have HO:=hid (url_one A.1 pv hpv)
 clear hp hb HRc hpv
 obtain ⟨V,hV⟩:∃V,urlC A.1 pv=V:=⟨_,rfl⟩
 have HV:=hid hV
 have HZ:Hid ((Tryz.prog.info? 29).map (·.size)=some V.toArray.size):=by show _=_;rw [← hV];exact info_url
 have HTh:Hid (w3.there R 0 V.toArray.size):=by show World.there _ _ _ _;rw [← hV];exact HT.out
 rw [hV] at HS HP HO ⊢
 clear hV HT
 go_wp2_with (refine wpList_store_mid rfl 29 _ _ rfl R 0 V.toArray rfl rfl HTh.out HZ.out HO.out ?_;try simp only [List.toList_toArray];generalize World.setCells w3 R 0 _=w4 at *)
 have h1:=HS.out.1
 rw [← HV.out] at h1
 refine bodyPost_ret (results_ct Tryz.results23 rfl (url_load h1) rfl) rfl ?_
 refine ⟨⟨pv,rfl,?_⟩,?_⟩
 ·rw [HR.out];exact HP.out
 ·rw [HR.out];exact HB3.out.trans HS.out.2
end Go.Proofs.YtigfgloenjoeoaaGreatDoor
