import Derived.Test.YtigfgloenjoeoaaGreatDoorLaBY
import Derived.Test.YtigfgloenjoeoaaGreatDoorLaBW
set_option linter.unusedVariables false
set_option linter.unusedSimpArgs false
set_option maxRecDepth 20000
set_option maxHeartbeats 16000000
namespace Go.Proofs.YtigfgloenjoeoaaGreatDoor
open Go.RowKit Go.Shelf
theorem load_onU {ops:Array Oper} {rest:List Oper} {op:Oper} {a:Act} {w:World} {Q:Exit→Act→World→Prop} (hw:Region.wanted op (yielded ops a.tmps)=true) (ty:TypeId) (x:Operand) (ho:op.op=.load ty x)
 (b o:Nat) (hx:a.eval x=.pointer (some ⟨b,o,none⟩)) (cs:List Value) (d:TypeDesc) (hc:w.rangeAt b o cs)
 (hu:Tryz.prog.underlying ty=some d) (hd:d.isRow=true) (hi:(Tryz.prog.info? ty).map (·.size)=some cs.length)
 (h:wpList Tryz.prog ops Q rest (a.put op.dst (.agg cs.toArray)) w):wpList Tryz.prog ops Q (op::rest) a w:=by
 refine wpList_step fun K hK=>?_
 rw [if_pos hw]
 exact wp_load_mid ty x ho b o hx cs d hc hu hd hi (hK _ _ h)
def SsAt (w:World) (U1 WB O1 O2 O5 M:Nat) (u u':UrlN) (pu pw:Value) (o p:OrgN):Prop :=
 Bc UT w U1 (urlC u pu)∧Bc UT w WB (urlC u' pw)∧Bc OT w O1 (orgC o)∧Bc OT w O2 (orgC p)∧Bc OT w O5 (orgC o)∧MpAt w M #[⟨orgV o,.int .i64 3,0⟩] 1
theorem SsAt.below {w w':World} {U1 WB O1 O2 O5 M:Nat} {u u':UrlN} {pu pw:Value} {o p:OrgN} (h:SsAt w U1 WB O1 O2 O5 M u u' pu pw o p) (hb:Below w.heap.size w w'):SsAt w' U1 WB O1 O2 O5 M u u' pu pw o p :=
 ⟨h.1.below hb,h.2.1.below hb,h.2.2.1.below hb,h.2.2.2.1.below hb,h.2.2.2.2.1.below hb,h.2.2.2.2.2.below hb⟩
theorem three_eq (t:Bool):((if t=true then (3:Int) else 0)==3)=t:=by cases t<;>rfl
theorem eq_orgC (o p:OrgN) (w:World):(Op.equalIn 10000 OT (.agg (orgC o).toArray) (.agg (orgC p).toArray)).run Tryz.prog w=.ok (sameO o p) w:=eq_orgV o p w
theorem eqx_orgC (o p:OrgN) (w:World):(Op.equal OT (.agg (orgC o).toArray) (.agg (orgC p).toArray)).run Tryz.prog w=.ok (sameO o p) w:=eq_orgV o p w
theorem siteSame_walk (u v:UrlN) (pu pv x:Value) (l:List (List UInt8)) (w:World) (T:TabR w) (zu:UrlZ u) (zv:UrlZ v) (hpu:SRowIp w pu u.path) (hpv:SRowIp w pv v.path) (ku:u.host.2.2.2.length=8) (kv:v.host.2.2.2.length=8) (hx:SRowIp w x l) :
 Calls Tryz.prog 4 #[.agg (urlC u pu).toArray,.agg (urlC v pv).toArray,x] w fun e w'=>e=.returned (.bool true)∧Below w.heap.size w w':=by
 have HT:Hid (∀w',Below w.heap.size w w'→TabR w'):=fun w' hb=>T.below hb
 have HV:Hid (∀w',Below w.heap.size w w'→SRowIp w' x l):=fun w' hb=>hx.below hb
 have HFst:=hid (fun w' (hb:Below w.heap.size w w')=>sfirst_calls w' (HT.out w' hb))
 have HFw:=hid (fun w' hb=>few_calls x l w' (HV.out w' hb))
 have HF1:=hid (fun w' (hb:Below w.heap.size w w')=>Few_calls u pu w' (hpu.below hb) zu)
 have HF2:=hid (fun w' (hb:Below w.heap.size w w')=>Few_calls v pv w' (hpv.below hb) zv)
 have hou:pu.oneCell'=true:=by obtain ⟨a,cap,h,-⟩:=hpu;rw [h];rfl
 have hov:pv.oneCell'=true:=by obtain ⟨a,cap,h,-⟩:=hpv;rw [h];rfl
 have HOU:=hid hou
 have HOV:=hid hov
 have KU:=hid ku
 have KV:=hid kv
 obtain ⟨xa,xcap,hxe,-⟩:=hx
 subst hxe
 clear hou hov hpu hpv zu zv T ku kv
 obtain ⟨A1,hA1⟩:∃A,(urlC u pu).toArray=A:=⟨_,rfl⟩
 obtain ⟨A2,hA2⟩:∃A,(urlC v pv).toArray=A:=⟨_,rfl⟩
 rw [hA1,hA2]
 have HA1:=hid hA1
 have HA2:=hid hA2
 clear hA1 hA2
 go_enter Tryz.func4,Tryz.ntmps4
 go_upto_region 1 with fail
 have H2:=hid (two_new w A1 A2 UT UT)
 have HB1:Hid (Below w.heap.size w ((w.alloc (.cells A1 UT)).alloc (.cells A2 UT))):=hid H2.out.2.2
 have HU1:Hid (Bc UT ((w.alloc (.cells A1 UT)).alloc (.cells A2 UT)) w.heap.size (urlC u pu)):=by show _=_;rw [H2.out.1,HA1.out]
 have HU2:Hid (Bc UT ((w.alloc (.cells A1 UT)).alloc (.cells A2 UT)) (w.heap.size+1) (urlC v pv)):=by show _=_;rw [H2.out.2.1,HA2.out]
 clear H2 HA1 HA2
 generalize (w.alloc (.cells A1 UT)).alloc (.cells A2 UT)=w1 at *
 obtain ⟨U2,hU2⟩:∃R,w.heap.size+1=R:=⟨_,rfl⟩
 rw [hU2] at HU2 ⊢
 obtain ⟨U1,hU1⟩:∃U,w.heap.size=U:=⟨_,rfl⟩
 have HUU:Hid (w.heap.size=U1):=hid hU1
 rw [hU1] at HU1 ⊢
 clear hU2 hU1
 go_wp2_with fail
 refine (HFst.out _ HB1.out).mono ?_
 rintro e w2 ⟨rfl,hb2⟩
 have HU11:=hid (HU1.out.below (hb2))
 have HV12:=hid (HU2.out.below (hb2))
 have HB13:=hid (HB1.out.trans ((hb2).mono HB1.out.size))
 clear HU1 HU2 HB1
 clear hb2
 cases q1:fewU u
 ·rw [q1] at HF1
  go_wp2_with (refine wpList_load_mid rfl 29 _ rfl U1 0 rfl (urlC u pu) _ (url_range HU11.out) Tryz.underlying29 rfl info_url ?_)
  refine (HF1.out _ HB13.out).mono ?_
  rintro e w3 ⟨rfl,hb3⟩
  have HU14:=hid (HU11.out.below (hb3))
  have HV15:=hid (HV12.out.below (hb3))
  have HB16:=hid (HB13.out.trans ((hb3).mono HB13.out.size))
  clear HU11 HV12 HB13
  clear hb3
  go_wp2_with fail
  refine (HFst.out _ HB16.out).mono ?_
  rintro e w4 ⟨rfl,hb4⟩
  have HU17:=hid (HU14.out.below (hb4))
  have HV18:=hid (HV15.out.below (hb4))
  have HB19:=hid (HB16.out.trans ((hb4).mono HB16.out.size))
  clear HU14 HV15 HB16
  clear hb4
  go_wp2_with fail
  go_ret
  exact ⟨rfl,HB19.out⟩
 ·rw [q1] at HF1
  go_wp2_with (refine wpList_load_mid rfl 29 _ rfl U1 0 rfl (urlC u pu) _ (url_range HU11.out) Tryz.underlying29 rfl info_url ?_)
  refine (HF1.out _ HB13.out).mono ?_
  rintro e w3 ⟨rfl,hb3⟩
  have HU14:=hid (HU11.out.below (hb3))
  have HV15:=hid (HV12.out.below (hb3))
  have HB16:=hid (HB13.out.trans ((hb3).mono HB13.out.size))
  clear HU11 HV12 HB13
  clear hb3
  cases q2:fewU v
  ·rw [q2] at HF2
   go_wp2_with (refine load_onU (by rfl) 29 _ rfl U2 0 rfl (urlC v pv) _ (url_range HV15.out) Tryz.underlying29 rfl info_url ?_)
   refine (HF2.out _ HB16.out).mono ?_
   rintro e w4 ⟨rfl,hb4⟩
   have HU17:=hid (HU14.out.below (hb4))
   have HV18:=hid (HV15.out.below (hb4))
   have HB19:=hid (HB16.out.trans ((hb4).mono HB16.out.size))
   clear HU14 HV15 HB16
   clear hb4
   go_wp2_with fail
   refine (HFst.out _ HB19.out).mono ?_
   rintro e w5 ⟨rfl,hb5⟩
   have HU20:=hid (HU17.out.below (hb5))
   have HV21:=hid (HV18.out.below (hb5))
   have HB22:=hid (HB19.out.trans ((hb5).mono HB19.out.size))
   clear HU17 HV18 HB19
   clear hb5
   go_wp2_with fail
   go_ret
   exact ⟨rfl,HB22.out⟩
  ·rw [q2] at HF2
   go_wp2_with (refine load_onU (by rfl) 29 _ rfl U2 0 rfl (urlC v pv) _ (url_range HV15.out) Tryz.underlying29 rfl info_url ?_)
   refine (HF2.out _ HB16.out).mono ?_
   rintro e w4 ⟨rfl,hb4⟩
   have HU17:=hid (HU14.out.below (hb4))
   have HV18:=hid (HV15.out.below (hb4))
   have HB19:=hid (HB16.out.trans ((hb4).mono HB16.out.size))
   clear HU14 HV15 HB16
   clear hb4
   cases q3:fewS l
   ·rw [q3] at HFw
    go_wp2_with fail
    refine (HFw.out _ HB19.out).mono ?_
    rintro e wq ⟨rfl,hw⟩
    subst hw
    go_wp2_with fail
    refine (HFst.out _ HB19.out).mono ?_
    rintro e w5 ⟨rfl,hb5⟩
    have HU20:=hid (HU17.out.below (hb5))
    have HV21:=hid (HV18.out.below (hb5))
    have HB22:=hid (HB19.out.trans ((hb5).mono HB19.out.size))
    clear HU17 HV18 HB19
    clear hb5
    go_wp2_with fail
    go_ret
    exact ⟨rfl,HB22.out⟩
   ·rw [q3] at HFw
    go_wp2_with fail
    refine (HFw.out _ HB19.out).mono ?_
    rintro e wq ⟨rfl,hw⟩
    subst hw
    obtain ⟨f1,f2⟩:=fewS_true q3
    have g1:=fewU_true q1
    have g2:=fewU_true q2
    unfold sumU at g1 g2
    have n1:u.sch.length≤100000:=by omega
    have n2:u.host.2.1.length≤100000:=by omega
    have n3:v.sch.length≤100000:=by omega
    have n4:v.host.2.1.length≤100000:=by omega
    have HSS:=hid (fun (u v:UrlN) (pu pv:Value) w h1 h2 h3 h4 h5 h6 h7 h8=>ssame_calls u v pu pv w h1 h2 h3 h4 h5 h6 h7 h8)
    have HS12:=hid (fun w=>ssame_calls u v pu pv w n1 n2 n3 n4 HOU.out HOV.out KU.out KV.out)
    have HS21:=hid (fun w=>ssame_calls v u pv pu w n3 n4 n1 n2 HOV.out HOU.out KV.out KU.out)
    have HO1:=hid (fun w=>sorigin_calls u pu w n1 n2)
    have HO2:=hid (fun w=>sorigin_calls v pv w n3 n4)
    have HS1:=hid (fun w hv=>ssite_calls u pu (.slice xa l.length xcap) l w n1 n2 hv (by omega) (fun q hq=>Nat.le_trans (f2 q hq) (by omega)))
    have HS2:=hid (fun w hv=>ssite_calls v pv (.slice xa l.length xcap) l w n3 n4 hv (by omega) (fun q hq=>Nat.le_trans (f2 q hq) (by omega)))
    have HOW:=hid (fun (pw:Value) w=>sorigin_calls ({ u with path:=[[111,116,104,101,114]],qry:=[113],hasQ:=true,usr:=[115,111,109,101,98,111,100,121] }) pw w n1 n2)
    have HSW:=hid (fun (pw:Value) w (h:pw.oneCell'=true)=>ssame_calls u ({ u with path:=[[111,116,104,101,114]],qry:=[113],hasQ:=true,usr:=[115,111,109,101,98,111,100,121] }) pu pw w n1 n2 n1 n2 HOU.out h KU.out KU.out)
    have e9:originN ({ u with path:=[[111,116,104,101,114]],qry:=[113],hasQ:=true,usr:=[115,111,109,101,98,111,100,121] })=originN u:=rfl
    rw [e9] at HOW HSW
    clear e9
    have K1:=hid (origin8 KU.out)
    have K2:=hid (origin8 KV.out)
    have HZ1:Hid ((originN u).2=false→(originN u).1=org0):=by intro h;unfold originN at h ⊢;split;rfl;(rename_i h2;rw [if_neg h2] at h;cases h)
    have SU:Hid (siteN u l=if (originN u).2=true then (((originN u).1.1,nameN (originN u).1.2.1 l,0),true) else (org0,false)):=hid rfl
    have SV:Hid (siteN v l=if (originN v).2=true then (((originN v).1.1,nameN (originN v).1.2.1 l,0),true) else (org0,false)):=hid rfl
    clear g1 g2 n1 n2 n3 n4 f1 f2 q1 q2 q3 HSS
    generalize siteN u l=Su at *
    generalize siteN v l=Sv at *
    generalize originN u=Ou at *
    generalize originN v=Ov at *
    obtain ⟨o,e0⟩:=Ou
    obtain ⟨p,f0⟩:=Ov
    obtain ⟨c,g0⟩:=Su
    obtain ⟨d,h0⟩:=Sv
    have hge:g0=e0∧h0=f0:=by
     have h1:=SU.out;have h2:=SV.out;cases e0<;>cases f0<;>simp_all
    obtain ⟨rfl,rfl⟩:=hge
    have HCD:Hid (g0=true→h0=true→o=p→c=d):=by
     intro a b e;subst a b e;have h1:=SU.out;have h2:=SV.out;simp only [if_true] at h1 h2;exact (Prod.mk.inj (h1.trans h2.symm)).1
    have HIF:=hid (sameO_iff K1.out K2.out)
    have HIF2:=hid (sameO_iff K2.out K1.out)
    have HEQ:Hid (sameO p o=sameO o p):=by show _=_;rw [Bool.eq_iff_iff,HIF.out,HIF2.out];exact eq_comm
    rw [HEQ.out] at HS12
    clear SU SV HIF2 K1 K2
    go_wp2_with (refine wpList_load_mid rfl 29 _ rfl U1 0 rfl (urlC u pu) _ (url_range HU17.out) Tryz.underlying29 rfl info_url ?_)
    refine (HO1.out _).mono ?_
    rintro e w5 ⟨rfl,hb5⟩
    have HU20:=hid (HU17.out.below (hb5))
    have HV21:=hid (HV18.out.below (hb5))
    have HB22:=hid (HB19.out.trans ((hb5).mono HB19.out.size))
    clear HU17 HV18 HB19
    clear hb5
    have HNn:=hid (new_org w5 o)
    have HU23:=hid (HU20.out.below (HNn.out.2))
    have HV24:=hid (HV21.out.below (HNn.out.2))
    have HB25:=hid (HB22.out.trans ((HNn.out.2).mono HB22.out.size))
    clear HU20 HV21 HB22
    have HA26:=hid HNn.out.1
    clear HNn
    go_upto_region 6 with (refine wpList_store_mid rfl 35 _ _ rfl w5.heap.size 0 (orgC o).toArray rfl rfl (new_there _) info_org (org_one _) ?_;try simp only [List.toList_toArray];generalize (w5.alloc (.cells #[.string ⟨#[]⟩,.int .i64 0,.string ⟨#[]⟩,.int .u32 0,.int .u16 0,.int .u16 0,.int .u16 0,.int .u16 0,.int .u16 0,.int .u16 0,.int .u16 0,.int .u16 0,.int .i64 0] OT)).setCells w5.heap.size 0 (orgC o)=w6 at *;generalize w5.heap.size=O1 at *)
    go_wp2_with (refine wpList_load_mid rfl 29 _ rfl U2 0 rfl (urlC v pv) _ (url_range HV24.out) Tryz.underlying29 rfl info_url ?_)
    refine (HO2.out _).mono ?_
    rintro e w7 ⟨rfl,hb7⟩
    have HU27:=hid (HU23.out.below (hb7))
    have HV28:=hid (HV24.out.below (hb7))
    have HA29:=hid (HA26.out.below (hb7))
    have HB30:=hid (HB25.out.trans ((hb7).mono HB25.out.size))
    clear HU23 HV24 HA26 HB25
    clear hb7
    have HNn:=hid (new_org w7 p)
    have HU31:=hid (HU27.out.below (HNn.out.2))
    have HV32:=hid (HV28.out.below (HNn.out.2))
    have HA33:=hid (HA29.out.below (HNn.out.2))
    have HB34:=hid (HB30.out.trans ((HNn.out.2).mono HB30.out.size))
    clear HU27 HV28 HA29 HB30
    have HB35:=hid HNn.out.1
    clear HNn
    go_upto_region 7 with (refine wpList_store_mid rfl 35 _ _ rfl w7.heap.size 0 (orgC p).toArray rfl rfl (new_there _) info_org (org_one _) ?_;try simp only [List.toList_toArray];generalize (w7.alloc (.cells #[.string ⟨#[]⟩,.int .i64 0,.string ⟨#[]⟩,.int .u32 0,.int .u16 0,.int .u16 0,.int .u16 0,.int .u16 0,.int .u16 0,.int .u16 0,.int .u16 0,.int .u16 0,.int .i64 0] OT)).setCells w7.heap.size 0 (orgC p)=w8 at *;generalize w7.heap.size=O2 at *)
    go_wp2_with (refine wpList_load_mid rfl 29 _ rfl U1 0 rfl (urlC u pu) _ (url_range HU31.out) Tryz.underlying29 rfl info_url ?_)
    refine (HS1.out _ (HV.out _ HB34.out)).mono ?_
    rintro e w9 ⟨rfl,hb9⟩
    have HU36:=hid (HU31.out.below (hb9))
    have HV37:=hid (HV32.out.below (hb9))
    have HA38:=hid (HA33.out.below (hb9))
    have HB39:=hid (HB35.out.below (hb9))
    have HB40:=hid (HB34.out.trans ((hb9).mono HB34.out.size))
    clear HU31 HV32 HA33 HB35 HB34
    clear hb9
    have HNn:=hid (new_org w9 c)
    have HU41:=hid (HU36.out.below (HNn.out.2))
    have HV42:=hid (HV37.out.below (HNn.out.2))
    have HA43:=hid (HA38.out.below (HNn.out.2))
    have HB44:=hid (HB39.out.below (HNn.out.2))
    have HB45:=hid (HB40.out.trans ((HNn.out.2).mono HB40.out.size))
    clear HU36 HV37 HA38 HB39 HB40
    have HC46:=hid HNn.out.1
    clear HNn
    go_upto_region 8 with (refine wpList_store_mid rfl 35 _ _ rfl w9.heap.size 0 (orgC c).toArray rfl rfl (new_there _) info_org (org_one _) ?_;try simp only [List.toList_toArray];generalize (w9.alloc (.cells #[.string ⟨#[]⟩,.int .i64 0,.string ⟨#[]⟩,.int .u32 0,.int .u16 0,.int .u16 0,.int .u16 0,.int .u16 0,.int .u16 0,.int .u16 0,.int .u16 0,.int .u16 0,.int .i64 0] OT)).setCells w9.heap.size 0 (orgC c)=w10 at *;generalize w9.heap.size=O3 at *)
    go_wp2_with (refine wpList_load_mid rfl 29 _ rfl U2 0 rfl (urlC v pv) _ (url_range HV42.out) Tryz.underlying29 rfl info_url ?_)
    refine (HS2.out _ (HV.out _ HB45.out)).mono ?_
    rintro e w11 ⟨rfl,hb11⟩
    have HU47:=hid (HU41.out.below (hb11))
    have HV48:=hid (HV42.out.below (hb11))
    have HA49:=hid (HA43.out.below (hb11))
    have HB50:=hid (HB44.out.below (hb11))
    have HC51:=hid (HC46.out.below (hb11))
    have HB52:=hid (HB45.out.trans ((hb11).mono HB45.out.size))
    clear HU41 HV42 HA43 HB44 HC46 HB45
    clear hb11
    have HNn:=hid (new_org w11 d)
    have HU53:=hid (HU47.out.below (HNn.out.2))
    have HV54:=hid (HV48.out.below (HNn.out.2))
    have HA55:=hid (HA49.out.below (HNn.out.2))
    have HB56:=hid (HB50.out.below (HNn.out.2))
    have HC57:=hid (HC51.out.below (HNn.out.2))
    have HB58:=hid (HB52.out.trans ((HNn.out.2).mono HB52.out.size))
    clear HU47 HV48 HA49 HB50 HC51 HB52
    have HD59:=hid HNn.out.1
    clear HNn
    go_upto_region 9 with (refine wpList_store_mid rfl 35 _ _ rfl w11.heap.size 0 (orgC d).toArray rfl rfl (new_there _) info_org (org_one _) ?_;try simp only [List.toList_toArray];generalize (w11.alloc (.cells #[.string ⟨#[]⟩,.int .i64 0,.string ⟨#[]⟩,.int .u32 0,.int .u16 0,.int .u16 0,.int .u16 0,.int .u16 0,.int .u16 0,.int .u16 0,.int .u16 0,.int .u16 0,.int .i64 0] OT)).setCells w11.heap.size 0 (orgC d)=w12 at *;generalize w11.heap.size=O4 at *)
    clear HO1 HO2 HS1 HS2 HF1 HF2 HFw
    cases g0
    ·cases h0
     ·have HT12:Hid (∀w,Calls Tryz.prog 18 #[.agg (urlC u pu).toArray,.agg (urlC v pv).toArray] w fun e w2=>e=.returned (.bool false)∧Below w.heap.size w w2):=HS12
      have HT21:Hid (∀w,Calls Tryz.prog 18 #[.agg (urlC v pv).toArray,.agg (urlC u pu).toArray] w fun e w2=>e=.returned (.bool false)∧Below w.heap.size w w2):=HS21
      clear HS12 HS21
      have hq1:=fun w=>eq_orgC o p w
      have hq2:=fun w=>eqx_orgC o p w
      go_upto_region 10 with (first | refine load_onU (by rfl) 35 _ rfl O1 0 rfl (orgC o) _ (org_range HA55.out) Tryz.underlying35 rfl info_org ?_ | refine load_onU (by rfl) 35 _ rfl O2 0 rfl (orgC p) _ (org_range HB56.out) Tryz.underlying35 rfl info_org ?_)
      have HQ1:=hid hq1
      have HQ2:=hid hq2
      clear hq1 hq2
      go_wp2_with (first | refine wpList_load_mid rfl 29 _ rfl U1 0 rfl (urlC u pu) _ (url_range HU53.out) Tryz.underlying29 rfl info_url ?_ | refine wpList_load_mid rfl 29 _ rfl U2 0 rfl (urlC v pv) _ (url_range HV54.out) Tryz.underlying29 rfl info_url ?_)
      refine (HT12.out _).mono ?_
      rintro e w13 ⟨rfl,hb13⟩
      have HU60:=hid (HU53.out.below (hb13))
      have HV61:=hid (HV54.out.below (hb13))
      have HA62:=hid (HA55.out.below (hb13))
      have HB63:=hid (HB56.out.below (hb13))
      have HC64:=hid (HC57.out.below (hb13))
      have HD65:=hid (HD59.out.below (hb13))
      have HB66:=hid (HB58.out.trans ((hb13).mono HB58.out.size))
      clear HU53 HV54 HA55 HB56 HC57 HD59 HB58
      clear hb13
      go_wp2_with (first | refine load_onU (by rfl) 29 _ rfl U2 0 rfl (urlC v pv) _ (url_range HV61.out) Tryz.underlying29 rfl info_url ?_ | refine load_onU (by rfl) 29 _ rfl U1 0 rfl (urlC u pu) _ (url_range HU60.out) Tryz.underlying29 rfl info_url ?_)
      refine (HT21.out _).mono ?_
      rintro e w14 ⟨rfl,hb14⟩
      have HU67:=hid (HU60.out.below (hb14))
      have HV68:=hid (HV61.out.below (hb14))
      have HA69:=hid (HA62.out.below (hb14))
      have HB70:=hid (HB63.out.below (hb14))
      have HC71:=hid (HC64.out.below (hb14))
      have HD72:=hid (HD65.out.below (hb14))
      have HB73:=hid (HB66.out.trans ((hb14).mono HB66.out.size))
      clear HU60 HV61 HA62 HB63 HC64 HD65 HB66
      clear hb14
      clear HT12 HT21
      go_upto_region 12 with (first | refine load_onU (by rfl) 35 _ rfl O3 0 rfl (orgC c) _ (org_range HC71.out) Tryz.underlying35 rfl info_org ?_ | refine load_onU (by rfl) 35 _ rfl O4 0 rfl (orgC d) _ (org_range HD72.out) Tryz.underlying35 rfl info_org ?_ | fail)
      have hmm:=@run_makeMap Tryz.prog
      have hpn:(Instr.mapUpdate MpT (.map (some w14.heap.size)) (.agg (orgC o).toArray) (.int .i64 3)).run Tryz.prog (w14.alloc (.map #[] 0))=.ok () (putObjH (w14.alloc (.map #[] 0)) w14.heap.size (.map #[⟨orgV o,.int .i64 3,0⟩] 1)):=put_newO (heap_alloc_new w14 (.map #[] 0)) o (.int .i64 3)
      have HMn:Hid (MpAt (putObjH (w14.alloc (.map #[] 0)) w14.heap.size (.map #[⟨orgV o,.int .i64 3,0⟩] 1)) w14.heap.size #[⟨orgV o,.int .i64 3,0⟩] 1):=hid (MpAt.put (w:=w14.alloc (.map #[] 0)) (heap_alloc_new w14 (.map #[] 0)))
      have hbn:Below w14.heap.size w14 (putObjH (w14.alloc (.map #[] 0)) w14.heap.size (.map #[⟨orgV o,.int .i64 3,0⟩] 1)):=putO_below (ballC w14 _) (Nat.le_refl _) _
      have HAl:=hid (HA69.out.below (ballC w14 (.map #[] 0)))
      have HU74:=hid (HU67.out.below (hbn))
      have HA75:=hid (HA69.out.below (hbn))
      have HB76:=hid (HB70.out.below (hbn))
      have HB77:=hid (HB73.out.trans ((hbn).mono HB73.out.size))
      clear HU67 HA69 HB70 HB73
      clear hbn
      go_upto_region 13 with (refine wpList_load_mid rfl 35 _ rfl O1 0 rfl (orgC o) _ (org_range HAl.out) Tryz.underlying35 rfl info_org ?_)
      generalize (putObjH (w14.alloc (.map #[] 0)) w14.heap.size (.map #[⟨orgV o,.int .i64 3,0⟩] 1))=w15 at *
      generalize w14.heap.size=M at *
      clear hmm hpn HAl
      have lU:U1 < w15.heap.size:=HU74.out.lt
      have lA:O1 < w15.heap.size:=HA75.out.lt
      have lB:O2 < w15.heap.size:=HB76.out.lt
      have lM:M < w15.heap.size:=mp_lt HMn.out
      have LU:Hid (U1 < w15.heap.size∧O1 < w15.heap.size∧O2 < w15.heap.size∧M < w15.heap.size):=hid ⟨lU,lA,lB,lM⟩
      clear lU lA lB lM
      have LW:Hid (w.heap.size≤w15.heap.size):=hid HB77.out.size
      have HLd:=hid HU74.out
      have HNn:=hid (new_url w15 u pu)
      have HU78:=hid (HU74.out.below (HNn.out.2))
      have HA79:=hid (HA75.out.below (HNn.out.2))
      have HB80:=hid (HB76.out.below (HNn.out.2))
      have HM81:=hid (HMn.out.below (HNn.out.2))
      have HB82:=hid (HB77.out.trans ((HNn.out.2).mono HB77.out.size))
      clear HU74 HA75 HB76 HMn HB77
      have HW83:=hid HNn.out.1
      clear HNn
      go_upto_region 14 with (first | refine wpList_load_mid rfl 29 _ rfl U1 0 rfl (urlC u pu) _ (url_range HLd.out) Tryz.underlying29 rfl info_url ?_ | (refine wpList_store_mid rfl 29 _ _ rfl w15.heap.size 0 (urlC u pu).toArray rfl rfl (new_urlT _) info_url (url_one u pu HOU.out) ?_;try simp only [List.toList_toArray];generalize (w15.alloc (.cells #[.string ⟨#[]⟩,.string ⟨#[]⟩,.string ⟨#[]⟩,.bool false,.int .i64 0,.string ⟨#[]⟩,.int .u32 0,.int .u16 0,.int .u16 0,.int .u16 0,.int .u16 0,.int .u16 0,.int .u16 0,.int .u16 0,.int .u16 0,.int .i64 0,.bool false,.string ⟨#[]⟩,.slice none 0 0,.bool false,.string ⟨#[]⟩,.bool false,.string ⟨#[]⟩] UT)).setCells w15.heap.size 0 (urlC u pu)=w16 at *;generalize w15.heap.size=WB at *))
      clear HLd
      have hal:Below w16.heap.size w16 (w16.alloc (.cells #[.string ⟨#[111,116,104,101,114]⟩] 9)):=ballC _ _
      have HU84:=hid (HU78.out.below (hal))
      have HA85:=hid (HA79.out.below (hal))
      have HB86:=hid (HB80.out.below (hal))
      have HM87:=hid (HM81.out.below (hal))
      have HW88:=hid (HW83.out.below (hal))
      have HB89:=hid (HB82.out.trans ((hal).mono HB82.out.size))
      clear HU78 HA79 HB80 HM81 HW83 HB82
      clear hal
      have s18:=(HW88.out.cell 18 rfl).1
      have z18:=(HW88.out.cell 18 rfl).2
      have s20:=((HW88.out.set 18 (.slice (some ⟨w16.heap.size,0,none⟩) 1 1)).cell 20 rfl).1
      have z20:=((HW88.out.set 18 (.slice (some ⟨w16.heap.size,0,none⟩) 1 1)).cell 20 rfl).2
      have s19:=(((HW88.out.set 18 (.slice (some ⟨w16.heap.size,0,none⟩) 1 1)).set 20 (.string ⟨#[113]⟩)).cell 19 rfl).1
      have z19:=(((HW88.out.set 18 (.slice (some ⟨w16.heap.size,0,none⟩) 1 1)).set 20 (.string ⟨#[113]⟩)).cell 19 rfl).2
      have s1:=((((HW88.out.set 18 (.slice (some ⟨w16.heap.size,0,none⟩) 1 1)).set 20 (.string ⟨#[113]⟩)).set 19 (.bool true)).cell 1 rfl).1
      have z1:=((((HW88.out.set 18 (.slice (some ⟨w16.heap.size,0,none⟩) 1 1)).set 20 (.string ⟨#[113]⟩)).set 19 (.bool true)).cell 1 rfl).2
      have HWf:Hid (Bc UT (((((w16.alloc (.cells #[.string ⟨#[111,116,104,101,114]⟩] 9)).setCell ⟨WB,18,none⟩ (.slice (some ⟨w16.heap.size,0,none⟩) 1 1)).setCell ⟨WB,20,none⟩ (.string ⟨#[113]⟩)).setCell ⟨WB,19,none⟩ (.bool true)).setCell ⟨WB,1,none⟩ (.string ⟨#[115,111,109,101,98,111,100,121]⟩)) WB (urlC ({ u with path:=[[111,116,104,101,114]],qry:=[113],hasQ:=true,usr:=[115,111,109,101,98,111,100,121] }) (.slice (some ⟨w16.heap.size,0,none⟩) 1 1))):=hid ((((HW88.out.set 18 (.slice (some ⟨w16.heap.size,0,none⟩) 1 1)).set 20 (.string ⟨#[113]⟩)).set 19 (.bool true)).set 1 (.string ⟨#[115,111,109,101,98,111,100,121]⟩))
      have HUf:Hid (Bc UT (((((w16.alloc (.cells #[.string ⟨#[111,116,104,101,114]⟩] 9)).setCell ⟨WB,18,none⟩ (.slice (some ⟨w16.heap.size,0,none⟩) 1 1)).setCell ⟨WB,20,none⟩ (.string ⟨#[113]⟩)).setCell ⟨WB,19,none⟩ (.bool true)).setCell ⟨WB,1,none⟩ (.string ⟨#[115,111,109,101,98,111,100,121]⟩)) U1 (urlC u pu)):=by
       have h:=LU.out
       exact hid ((((HU84.out.kept (heap_setCell_other _ _ _ _ (by show _≠WB;omega))).kept (heap_setCell_other _ _ _ _ (by show _≠WB;omega))).kept (heap_setCell_other _ _ _ _ (by show _≠WB;omega))).kept (heap_setCell_other _ _ _ _ (by show _≠WB;omega)))
      have HAf:Hid (Bc OT (((((w16.alloc (.cells #[.string ⟨#[111,116,104,101,114]⟩] 9)).setCell ⟨WB,18,none⟩ (.slice (some ⟨w16.heap.size,0,none⟩) 1 1)).setCell ⟨WB,20,none⟩ (.string ⟨#[113]⟩)).setCell ⟨WB,19,none⟩ (.bool true)).setCell ⟨WB,1,none⟩ (.string ⟨#[115,111,109,101,98,111,100,121]⟩)) O1 (orgC o)):=by
       have h:=LU.out
       exact hid ((((HA85.out.kept (heap_setCell_other _ _ _ _ (by show _≠WB;omega))).kept (heap_setCell_other _ _ _ _ (by show _≠WB;omega))).kept (heap_setCell_other _ _ _ _ (by show _≠WB;omega))).kept (heap_setCell_other _ _ _ _ (by show _≠WB;omega)))
      have HBo:Hid (Bc OT (((((w16.alloc (.cells #[.string ⟨#[111,116,104,101,114]⟩] 9)).setCell ⟨WB,18,none⟩ (.slice (some ⟨w16.heap.size,0,none⟩) 1 1)).setCell ⟨WB,20,none⟩ (.string ⟨#[113]⟩)).setCell ⟨WB,19,none⟩ (.bool true)).setCell ⟨WB,1,none⟩ (.string ⟨#[115,111,109,101,98,111,100,121]⟩)) O2 (orgC p)):=by
       have h:=LU.out
       exact hid ((((HB86.out.kept (heap_setCell_other _ _ _ _ (by show _≠WB;omega))).kept (heap_setCell_other _ _ _ _ (by show _≠WB;omega))).kept (heap_setCell_other _ _ _ _ (by show _≠WB;omega))).kept (heap_setCell_other _ _ _ _ (by show _≠WB;omega)))
      have HMf:Hid (MpAt (((((w16.alloc (.cells #[.string ⟨#[111,116,104,101,114]⟩] 9)).setCell ⟨WB,18,none⟩ (.slice (some ⟨w16.heap.size,0,none⟩) 1 1)).setCell ⟨WB,20,none⟩ (.string ⟨#[113]⟩)).setCell ⟨WB,19,none⟩ (.bool true)).setCell ⟨WB,1,none⟩ (.string ⟨#[115,111,109,101,98,111,100,121]⟩)) M #[⟨orgV o,.int .i64 3,0⟩] 1):=by
       have h:=LU.out
       have e:∀(v:World) (i:Nat) (x:Value),MpAt v M #[⟨orgV o,.int .i64 3,0⟩] 1→MpAt (v.setCell ⟨WB,i,none⟩ x) M #[⟨orgV o,.int .i64 3,0⟩] 1:=fun v i x h2=>(heap_setCell_other v _ _ _ (by show _≠WB;omega)).trans h2
       exact hid (e _ _ _ (e _ _ _ (e _ _ _ (e _ _ _ HM87.out))))
      have HBf:Hid (Below w.heap.size w (((((w16.alloc (.cells #[.string ⟨#[111,116,104,101,114]⟩] 9)).setCell ⟨WB,18,none⟩ (.slice (some ⟨w16.heap.size,0,none⟩) 1 1)).setCell ⟨WB,20,none⟩ (.string ⟨#[113]⟩)).setCell ⟨WB,19,none⟩ (.bool true)).setCell ⟨WB,1,none⟩ (.string ⟨#[115,111,109,101,98,111,100,121]⟩))):=hid ((((HB89.out.setCell (p:=⟨WB,18,none⟩) LW.out _).setCell (p:=⟨WB,20,none⟩) LW.out _).setCell (p:=⟨WB,19,none⟩) LW.out _).setCell (p:=⟨WB,1,none⟩) LW.out _)
      clear HU84 HA85 HB86 HW88 HM87 HB89
      go_upto_region 15 with fail
      try clear s18
      try clear z18
      try clear s20
      try clear z20
      try clear s19
      try clear z19
      try clear s1
      try clear z1
      generalize (((((w16.alloc (.cells #[.string ⟨#[111,116,104,101,114]⟩] 9)).setCell ⟨WB,18,none⟩ (.slice (some ⟨w16.heap.size,0,none⟩) 1 1)).setCell ⟨WB,20,none⟩ (.string ⟨#[113]⟩)).setCell ⟨WB,19,none⟩ (.bool true)).setCell ⟨WB,1,none⟩ (.string ⟨#[115,111,109,101,98,111,100,121]⟩))=w17 at *
      generalize w16.heap.size=PB at *
      go_wp2_with (refine wpList_load_mid rfl 29 _ rfl WB 0 rfl (urlC ({ u with path:=[[111,116,104,101,114]],qry:=[113],hasQ:=true,usr:=[115,111,109,101,98,111,100,121] }) (.slice (some ⟨PB,0,none⟩) 1 1)) _ (url_range HWf.out) Tryz.underlying29 rfl info_url ?_)
      refine (HOW.out (.slice (some ⟨PB,0,none⟩) 1 1) _).mono ?_
      rintro e w18 ⟨rfl,hb18⟩
      have HU90:=hid (HUf.out.below (hb18))
      have HA91:=hid (HAf.out.below (hb18))
      have HB92:=hid (HBo.out.below (hb18))
      have HW93:=hid (HWf.out.below (hb18))
      have HM94:=hid (HMf.out.below (hb18))
      have HB95:=hid (HBf.out.trans ((hb18).mono HBf.out.size))
      clear HUf HAf HBo HWf HMf HBf
      clear hb18
      have HNn:=hid (new_org w18 o)
      have HU96:=hid (HU90.out.below (HNn.out.2))
      have HA97:=hid (HA91.out.below (HNn.out.2))
      have HB98:=hid (HB92.out.below (HNn.out.2))
      have HW99:=hid (HW93.out.below (HNn.out.2))
      have HM100:=hid (HM94.out.below (HNn.out.2))
      have HB101:=hid (HB95.out.trans ((HNn.out.2).mono HB95.out.size))
      clear HU90 HA91 HB92 HW93 HM94 HB95
      have HX102:=hid HNn.out.1
      clear HNn
      go_upto_region 16 with (refine wpList_store_mid rfl 35 _ _ rfl w18.heap.size 0 (orgC o).toArray rfl rfl (new_there _) info_org (org_one _) ?_;try simp only [List.toList_toArray];generalize (w18.alloc (.cells #[.string ⟨#[]⟩,.int .i64 0,.string ⟨#[]⟩,.int .u32 0,.int .u16 0,.int .u16 0,.int .u16 0,.int .u16 0,.int .u16 0,.int .u16 0,.int .u16 0,.int .u16 0,.int .i64 0] OT)).setCells w18.heap.size 0 (orgC o)=w19 at *;generalize w18.heap.size=O5 at *)
      have HS0:Hid (SsAt w19 U1 WB O1 O2 O5 M u ({ u with path:=[[111,116,104,101,114]],qry:=[113],hasQ:=true,usr:=[115,111,109,101,98,111,100,121] }) pu (.slice (some ⟨PB,0,none⟩) 1 1) o p):=hid ⟨HU96.out,HW99.out,HA97.out,HB98.out,HX102.out,HM100.out⟩
      have HSd:=hid (HS0.out.below ((Below.refl w19.heap.size w19).drew))
      have HBd:=hid (HB101.out.drew)
      clear HS0 HU96 HA97 HB98 HW99 HM100 HX102 HB101
      obtain ⟨tt,htt⟩:∃tt,sameO o p=tt:=⟨_,rfl⟩
      obtain ⟨kk,hkk⟩:∃kk:Int,(if tt=true then (3:Int) else 0)=kk:=⟨_,rfl⟩
      have hlk:∀w,SsAt w U1 WB O1 O2 O5 M u ({ u with path:=[[111,116,104,101,114]],qry:=[113],hasQ:=true,usr:=[115,111,109,101,98,111,100,121] }) pu (.slice (some ⟨PB,0,none⟩) 1 1) o p→(Instr.lookup MpT (.map (some M)) (.agg (orgC p).toArray) false).run Tryz.prog w=.ok (.int .i64 kk) w:=fun w h=>by have:=look_oneO h.2.2.2.2.2 p;rw [HEQ.out,htt,hkk] at this;exact this
      have hqa:∀w,(Op.equalIn 10000 OT (.agg (orgC o).toArray) (.agg (orgC p).toArray)).run Tryz.prog w=.ok tt w:=fun w=>by rw [eq_orgC,htt]
      have hqs:∀w,(Op.equalIn 10000 OT (.agg (orgC o).toArray) (.agg (orgC o).toArray)).run Tryz.prog w=.ok true w:=fun w=>by rw [eq_orgC,sameO_self]
      have h9:(kk==3)=tt:=by rw [← hkk];exact three_eq tt
      clear htt hkk
      have hqa2:∀w,(Op.equal OT (.agg (orgC o).toArray) (.agg (orgC p).toArray)).run Tryz.prog w=.ok tt w:=hqa
      have hqs2:∀w,(Op.equal OT (.agg (orgC o).toArray) (.agg (orgC o).toArray)).run Tryz.prog w=.ok true w:=hqs
      have HQA2:=hid hqa2
      have HQS2:=hid hqs2
      clear hqa2 hqs2
      have HLK:=hid hlk
      have HQA:=hid hqa
      have HQS:=hid hqs
      have H9:=hid h9
      clear hlk hqa hqs h9
      refine wp_region_held_drew (S:=fun w'=>SsAt w' U1 WB O1 O2 O5 M u ({ u with path:=[[111,116,104,101,114]],qry:=[113],hasQ:=true,usr:=[115,111,109,101,98,111,100,121] }) pu (.slice (some ⟨PB,0,none⟩) 1 1) o p) (by kernel_rfl) ?_ (fun hHeld=>?_)
      ·exact HSd.out
      refine wpAnyH_ready (rs:=[0]) (by kernel_rfl) (by simp) ?_
      refine' AllReadyH.cons (by simp only [List.getElem?_toArray,List.getElem?_cons_succ,List.getElem?_cons_zero];rfl) (fun K hK=>?_) AllReadyH.nil
      go_simp
      refine (HFst.out _ HBd.out).mono ?_
      rintro e wa ⟨rfl,hb⟩
      have HSe:=hid (HSd.out.below hb)
      have HBe:=hid (HBd.out.trans (hb.mono HBd.out.size))
      clear hb HSd HBd
      have HSd:=hid HSe.out
      have HBd:=hid HBe.out
      clear HSe HBe
      go_wp2_with fail
      refine hK.out _ _ ?_ (fun hHeld=>?_)
      ·exact HSd.out
      clear hK K
      try simp only [Act.put,List.setIfInBounds_toArray,List.set_cons_zero,List.set_cons_succ]
      refine' wpAnyH_take (i:=1) (v:=?_) (by simp only [List.getElem?_toArray,List.getElem?_cons_succ,List.getElem?_cons_zero];rfl) (by kernel_rfl) (by kernel_rfl) (by kernel_rfl) (by intro _ _ _ h;exact h) (Or.inl ⟨by rfl,?hy0x1⟩) hHeld ?rs0x1
      case hy0x1=>(intro w hSw;clear hSw;go_simp;try with_reducible rfl)
      try simp only [Act.put,List.setIfInBounds_toArray,List.set_cons_zero,List.set_cons_succ]
      refine' wpAnyH_take (i:=2) (v:=?_) (by simp only [List.getElem?_toArray,List.getElem?_cons_succ,List.getElem?_cons_zero];rfl) (by kernel_rfl) (by kernel_rfl) (by kernel_rfl) (by intro _ _ _ h;exact h) (Or.inl ⟨by rfl,?hy0x2⟩) hHeld ?rs0x2
      case hy0x2=>(intro w hSw;clear hSw;go_simp;try with_reducible rfl)
      try simp only [Act.put,List.setIfInBounds_toArray,List.set_cons_zero,List.set_cons_succ]
      refine' wpAnyH_take (i:=3) (v:=_) (by simp only [List.getElem?_toArray,List.getElem?_cons_succ,List.getElem?_cons_zero];rfl) (by kernel_rfl) (by kernel_rfl) (by kernel_rfl) (by intro _ _ _ h;exact h) (yieldsIf_load_mid (by rfl) 35 _ rfl O2 0 rfl (orgC p) _ (fun w h=>org_range h.2.2.2.1) Tryz.underlying35 rfl info_org) hHeld ?rs0x3
      try simp only [Act.put,List.setIfInBounds_toArray,List.set_cons_zero,List.set_cons_succ]
      refine' wpAnyH_take (i:=4) (v:=?_) (by simp only [List.getElem?_toArray,List.getElem?_cons_succ,List.getElem?_cons_zero];rfl) (by kernel_rfl) (by kernel_rfl) (by kernel_rfl) (by intro _ _ _ h;exact h) (Or.inl ⟨by rfl,?hy0x4⟩) hHeld ?rs0x4
      case hy0x4=>(intro w hSw;have hl:=HLK.out w hSw;clear hSw;go_simp;try with_reducible rfl)
      try simp only [Act.put,List.setIfInBounds_toArray,List.set_cons_zero,List.set_cons_succ]
      refine' wpAnyH_take (i:=5) (v:=.bool tt) (by simp only [List.getElem?_toArray,List.getElem?_cons_succ,List.getElem?_cons_zero];rfl) (by kernel_rfl) (by kernel_rfl) (by kernel_rfl) (by intro _ _ _ h;exact h) (Or.inl ⟨by rfl,?hy0x5⟩) hHeld ?rs0x5
      case hy0x5=>(intro w hSw;have hl:=H9.out;clear hSw;go_simp;try (first | rfl | simp [hl]))
      try simp only [Act.put,List.setIfInBounds_toArray,List.set_cons_zero,List.set_cons_succ]
      refine' wpAnyH_take (i:=6) (v:=_) (by simp only [List.getElem?_toArray,List.getElem?_cons_succ,List.getElem?_cons_zero];rfl) (by kernel_rfl) (by kernel_rfl) (by kernel_rfl) (by intro _ _ _ h;exact h) (yieldsIf_load_mid (by rfl) 35 _ rfl O1 0 rfl (orgC o) _ (fun w h=>org_range h.2.2.1) Tryz.underlying35 rfl info_org) hHeld ?rs0x6
      try simp only [Act.put,List.setIfInBounds_toArray,List.set_cons_zero,List.set_cons_succ]
      refine' wpAnyH_take (i:=7) (v:=_) (by simp only [List.getElem?_toArray,List.getElem?_cons_succ,List.getElem?_cons_zero];rfl) (by kernel_rfl) (by kernel_rfl) (by kernel_rfl) (by intro _ _ _ h;exact h) (yieldsIf_load_mid (by rfl) 35 _ rfl O2 0 rfl (orgC p) _ (fun w h=>org_range h.2.2.2.1) Tryz.underlying35 rfl info_org) hHeld ?rs0x7
      try simp only [Act.put,List.setIfInBounds_toArray,List.set_cons_zero,List.set_cons_succ]
      refine' wpAnyH_take (i:=8) (v:=?_) (by simp only [List.getElem?_toArray,List.getElem?_cons_succ,List.getElem?_cons_zero];rfl) (by kernel_rfl) (by kernel_rfl) (by kernel_rfl) (by intro _ _ _ h;exact h) (Or.inl ⟨by rfl,?hy0x8⟩) hHeld ?rs0x8
      case hy0x8=>(intro w hSw;clear hSw;have hl:=HQA.out;have hl2:=HQA2.out;go_simp;try with_reducible rfl)
      try simp only [Act.put,List.setIfInBounds_toArray,List.set_cons_zero,List.set_cons_succ]
      refine' wpAnyH_take (i:=9) (v:=.bool true) (by simp only [List.getElem?_toArray,List.getElem?_cons_succ,List.getElem?_cons_zero];rfl) (by kernel_rfl) (by kernel_rfl) (by kernel_rfl) (by intro _ _ _ h;exact h) (Or.inl ⟨by rfl,?hy0x9⟩) hHeld ?rs0x9
      case hy0x9=>(intro w hSw;have hl:=H9.out;clear hSw;go_simp;try (first | rfl | simp [hl]))
      try simp only [Act.put,List.setIfInBounds_toArray,List.set_cons_zero,List.set_cons_succ]
      refine' wpAnyH_take (i:=10) (v:=?_) (by simp only [List.getElem?_toArray,List.getElem?_cons_succ,List.getElem?_cons_zero];rfl) (by kernel_rfl) (by kernel_rfl) (by kernel_rfl) (by intro _ _ _ h;exact h) (Or.inl ⟨by rfl,?hy0x10⟩) hHeld ?rs0x10
      case hy0x10=>(intro w hSw;clear hSw;go_simp;try with_reducible rfl)
      try simp only [Act.put,List.setIfInBounds_toArray,List.set_cons_zero,List.set_cons_succ]
      refine' wpAnyH_take (i:=11) (v:=?_) (by simp only [List.getElem?_toArray,List.getElem?_cons_succ,List.getElem?_cons_zero];rfl) (by kernel_rfl) (by kernel_rfl) (by kernel_rfl) (by intro _ _ _ h;exact h) (Or.inl ⟨by rfl,?hy0x11⟩) hHeld ?rs0x11
      case hy0x11=>(intro w hSw;clear hSw;go_simp;try with_reducible rfl)
      try simp only [Act.put,List.setIfInBounds_toArray,List.set_cons_zero,List.set_cons_succ]
      refine' wpAnyH_take (i:=12) (v:=_) (by simp only [List.getElem?_toArray,List.getElem?_cons_succ,List.getElem?_cons_zero];rfl) (by kernel_rfl) (by kernel_rfl) (by kernel_rfl) (by intro _ _ _ h;exact h) (yieldsIf_load_mid (by rfl) 35 _ rfl O5 0 rfl (orgC o) _ (fun w h=>org_range h.2.2.2.2.1) Tryz.underlying35 rfl info_org) hHeld ?rs0x12
      try simp only [Act.put,List.setIfInBounds_toArray,List.set_cons_zero,List.set_cons_succ]
      refine' wpAnyH_take (i:=13) (v:=_) (by simp only [List.getElem?_toArray,List.getElem?_cons_succ,List.getElem?_cons_zero];rfl) (by kernel_rfl) (by kernel_rfl) (by kernel_rfl) (by intro _ _ _ h;exact h) (yieldsIf_load_mid (by rfl) 35 _ rfl O1 0 rfl (orgC o) _ (fun w h=>org_range h.2.2.1) Tryz.underlying35 rfl info_org) hHeld ?rs0x13
      try simp only [Act.put,List.setIfInBounds_toArray,List.set_cons_zero,List.set_cons_succ]
      refine' wpAnyH_take (i:=14) (v:=?_) (by simp only [List.getElem?_toArray,List.getElem?_cons_succ,List.getElem?_cons_zero];rfl) (by kernel_rfl) (by kernel_rfl) (by kernel_rfl) (by intro _ _ _ h;exact h) (Or.inl ⟨by rfl,?hy0x14⟩) hHeld ?rs0x14
      case hy0x14=>(intro w hSw;clear hSw;have hl:=HQS.out;have hl2:=HQS2.out;go_simp;try with_reducible rfl)
      try simp only [Act.put,List.setIfInBounds_toArray,List.set_cons_zero,List.set_cons_succ]
      refine' wpAnyH_take (i:=15) (v:=?_) (by simp only [List.getElem?_toArray,List.getElem?_cons_succ,List.getElem?_cons_zero];rfl) (by kernel_rfl) (by kernel_rfl) (by kernel_rfl) (by intro _ _ _ h;exact h) (Or.inl ⟨by rfl,?hy0x15⟩) hHeld ?rs0x15
      case hy0x15=>(intro w hSw;clear hSw;go_simp;try with_reducible rfl)
      try simp only [Act.put,List.setIfInBounds_toArray,List.set_cons_zero,List.set_cons_succ]
      refine' wpAnyH_take (i:=16) (v:=?_) (by simp only [List.getElem?_toArray,List.getElem?_cons_succ,List.getElem?_cons_zero];rfl) (by kernel_rfl) (by kernel_rfl) (by kernel_rfl) (by intro _ _ _ h;exact h) (Or.inl ⟨by rfl,?hy0x16⟩) hHeld ?rs0x16
      case hy0x16=>(intro w hSw;clear hSw;go_simp;try with_reducible rfl)
      try simp only [Act.put,List.setIfInBounds_toArray,List.set_cons_zero,List.set_cons_succ]
      refine' wpAnyH_take (i:=17) (v:=?_) (by simp only [List.getElem?_toArray,List.getElem?_cons_succ,List.getElem?_cons_zero];rfl) (by kernel_rfl) (by kernel_rfl) (by kernel_rfl) (by intro _ _ _ h;exact h) (Or.inl ⟨by rfl,?hy0x17⟩) hHeld ?rs0x17
      case hy0x17=>(intro w hSw;clear hSw;go_simp;try with_reducible rfl)
      try simp only [Act.put,List.setIfInBounds_toArray,List.set_cons_zero,List.set_cons_succ]
      refine' wpAnyH_take (i:=18) (v:=?_) (by simp only [List.getElem?_toArray,List.getElem?_cons_succ,List.getElem?_cons_zero];rfl) (by kernel_rfl) (by kernel_rfl) (by kernel_rfl) (by intro _ _ _ h;exact h) (Or.inl ⟨by rfl,?hy0x18⟩) hHeld ?rs0x18
      case hy0x18=>(intro w hSw;clear hSw;go_simp;try with_reducible rfl)
      try simp only [Act.put,List.setIfInBounds_toArray,List.set_cons_zero,List.set_cons_succ]
      refine' wpAnyH_take (i:=19) (v:=?_) (by simp only [List.getElem?_toArray,List.getElem?_cons_succ,List.getElem?_cons_zero];rfl) (by kernel_rfl) (by kernel_rfl) (by kernel_rfl) (by intro _ _ _ h;exact h) (Or.inl ⟨by rfl,?hy0x19⟩) hHeld ?rs0x19
      case hy0x19=>(intro w hSw;clear hSw;go_simp;try with_reducible rfl)
      try simp only [Act.put,List.setIfInBounds_toArray,List.set_cons_zero,List.set_cons_succ]
      refine' wpAnyH_take (i:=20) (v:=?_) (by simp only [List.getElem?_toArray,List.getElem?_cons_succ,List.getElem?_cons_zero];rfl) (by kernel_rfl) (by kernel_rfl) (by kernel_rfl) (by intro _ _ _ h;exact h) (Or.inl ⟨by rfl,?hy0x20⟩) hHeld ?rs0x20
      case hy0x20=>(intro w hSw;clear hSw;go_simp;try with_reducible rfl)
      try simp only [Act.put,List.setIfInBounds_toArray,List.set_cons_zero,List.set_cons_succ]
      refine' wpAnyH_take (i:=21) (v:=?_) (by simp only [List.getElem?_toArray,List.getElem?_cons_succ,List.getElem?_cons_zero];rfl) (by kernel_rfl) (by kernel_rfl) (by kernel_rfl) (by intro _ _ _ h;exact h) (Or.inl ⟨by rfl,?hy0x21⟩) hHeld ?rs0x21
      case hy0x21=>(intro w hSw;clear hSw;go_simp;try with_reducible rfl)
      try simp only [Act.put,List.setIfInBounds_toArray,List.set_cons_zero,List.set_cons_succ]
      refine' wpAnyH_take (i:=22) (v:=?_) (by simp only [List.getElem?_toArray,List.getElem?_cons_succ,List.getElem?_cons_zero];rfl) (by kernel_rfl) (by kernel_rfl) (by kernel_rfl) (by intro _ _ _ h;exact h) (Or.inl ⟨by rfl,?hy0x22⟩) hHeld ?rs0x22
      case hy0x22=>(intro w hSw;clear hSw;go_simp;try with_reducible rfl)
      try simp only [Act.put,List.setIfInBounds_toArray,List.set_cons_zero,List.set_cons_succ]
      refine' wpAnyH_take (i:=23) (v:=?_) (by simp only [List.getElem?_toArray,List.getElem?_cons_succ,List.getElem?_cons_zero];rfl) (by kernel_rfl) (by kernel_rfl) (by kernel_rfl) (by intro _ _ _ h;exact h) (Or.inl ⟨by rfl,?hy0x23⟩) hHeld ?rs0x23
      case hy0x23=>(intro w hSw;clear hSw;go_simp;try with_reducible rfl)
      try simp only [Act.put,List.setIfInBounds_toArray,List.set_cons_zero,List.set_cons_succ]
      refine' wpAnyH_take (i:=24) (v:=?_) (by simp only [List.getElem?_toArray,List.getElem?_cons_succ,List.getElem?_cons_zero];rfl) (by kernel_rfl) (by kernel_rfl) (by kernel_rfl) (by intro _ _ _ h;exact h) (Or.inl ⟨by rfl,?hy0x24⟩) hHeld ?rs0x24
      case hy0x24=>(intro w hSw;clear hSw;go_simp;try with_reducible rfl)
      try simp only [Act.put,List.setIfInBounds_toArray,List.set_cons_zero,List.set_cons_succ]
      refine' wpAnyH_take (i:=25) (v:=undef) (by simp only [List.getElem?_toArray,List.getElem?_cons_succ,List.getElem?_cons_zero];rfl) (by kernel_rfl) (by kernel_rfl) (by kernel_rfl) (by intro _ _ _ h;exact h) (Or.inr ⟨by rfl,rfl⟩) hHeld ?_
      try simp only [Act.put,List.setIfInBounds_toArray,List.set_cons_zero,List.set_cons_succ]
      refine' wpAnyH_take (i:=26) (v:=undef) (by simp only [List.getElem?_toArray,List.getElem?_cons_succ,List.getElem?_cons_zero];rfl) (by kernel_rfl) (by kernel_rfl) (by kernel_rfl) (by intro _ _ _ h;exact h) (Or.inr ⟨by rfl,rfl⟩) hHeld ?_
      try simp only [Act.put,List.setIfInBounds_toArray,List.set_cons_zero,List.set_cons_succ]
      refine wpAnyH_ready (rs:=[27]) (by kernel_rfl) (by simp) ?_
      refine' AllReadyH.cons (by simp only [List.getElem?_toArray,List.getElem?_cons_succ,List.getElem?_cons_zero];rfl) (fun K hK=>?_) AllReadyH.nil
      go_simp
      refine hK.out _ _ ?_ (fun hHeld=>?_)
      ·exact HSd.out
      clear hK K
      try simp only [Act.put,List.setIfInBounds_toArray,List.set_cons_zero,List.set_cons_succ]
      refine' wpAnyH_take (i:=28) (v:=?_) (by simp only [List.getElem?_toArray,List.getElem?_cons_succ,List.getElem?_cons_zero];rfl) (by kernel_rfl) (by kernel_rfl) (by kernel_rfl) (by intro _ _ _ h;exact h) (Or.inl ⟨by rfl,?hy0x28⟩) hHeld ?rs0x28
      case hy0x28=>(intro w hSw;clear hSw;go_simp;try with_reducible rfl)
      try simp only [Act.put,List.setIfInBounds_toArray,List.set_cons_zero,List.set_cons_succ]
      refine' wpAnyH_take (i:=29) (v:=?_) (by simp only [List.getElem?_toArray,List.getElem?_cons_succ,List.getElem?_cons_zero];rfl) (by kernel_rfl) (by kernel_rfl) (by kernel_rfl) (by intro _ _ _ h;exact h) (Or.inl ⟨by rfl,?hy0x29⟩) hHeld ?rs0x29
      case hy0x29=>(intro w hSw;clear hSw;go_simp;try with_reducible rfl)
      try simp only [Act.put,List.setIfInBounds_toArray,List.set_cons_zero,List.set_cons_succ]
      refine wpAnyH_ready (rs:=[30]) (by kernel_rfl) (by simp) ?_
      refine' AllReadyH.cons (by simp only [List.getElem?_toArray,List.getElem?_cons_succ,List.getElem?_cons_zero];rfl) (fun K hK=>?_) AllReadyH.nil
      go_simp
      all_goals
       refine hK.out _ _ ?_ (fun hHeld=>?_)
       ·exact HSd.out
       clear hK K
       try simp only [Act.put,List.setIfInBounds_toArray,List.set_cons_zero,List.set_cons_succ]
       refine wpAnyH_done (by kernel_rfl) ?_ _
       go_wp2_with fail
       all_goals
        go_ret
        exact ⟨by first | rfl | (simp;done) | (simp [sameO_self];done) | simp_all,HBd.out⟩
     ·have HT12:Hid (∀w,Calls Tryz.prog 18 #[.agg (urlC u pu).toArray,.agg (urlC v pv).toArray] w fun e w2=>e=.returned (.bool false)∧Below w.heap.size w w2):=HS12
      have HT21:Hid (∀w,Calls Tryz.prog 18 #[.agg (urlC v pv).toArray,.agg (urlC u pu).toArray] w fun e w2=>e=.returned (.bool false)∧Below w.heap.size w w2):=HS21
      clear HS12 HS21
      have hq1:=fun w=>eq_orgC o p w
      have hq2:=fun w=>eqx_orgC o p w
      go_upto_region 10 with (first | refine load_onU (by rfl) 35 _ rfl O1 0 rfl (orgC o) _ (org_range HA55.out) Tryz.underlying35 rfl info_org ?_ | refine load_onU (by rfl) 35 _ rfl O2 0 rfl (orgC p) _ (org_range HB56.out) Tryz.underlying35 rfl info_org ?_)
      have HQ1:=hid hq1
      have HQ2:=hid hq2
      clear hq1 hq2
      go_wp2_with (first | refine wpList_load_mid rfl 29 _ rfl U1 0 rfl (urlC u pu) _ (url_range HU53.out) Tryz.underlying29 rfl info_url ?_ | refine wpList_load_mid rfl 29 _ rfl U2 0 rfl (urlC v pv) _ (url_range HV54.out) Tryz.underlying29 rfl info_url ?_)
      refine (HT12.out _).mono ?_
      rintro e w13 ⟨rfl,hb13⟩
      have HU60:=hid (HU53.out.below (hb13))
      have HV61:=hid (HV54.out.below (hb13))
      have HA62:=hid (HA55.out.below (hb13))
      have HB63:=hid (HB56.out.below (hb13))
      have HC64:=hid (HC57.out.below (hb13))
      have HD65:=hid (HD59.out.below (hb13))
      have HB66:=hid (HB58.out.trans ((hb13).mono HB58.out.size))
      clear HU53 HV54 HA55 HB56 HC57 HD59 HB58
      clear hb13
      go_wp2_with (first | refine load_onU (by rfl) 29 _ rfl U2 0 rfl (urlC v pv) _ (url_range HV61.out) Tryz.underlying29 rfl info_url ?_ | refine load_onU (by rfl) 29 _ rfl U1 0 rfl (urlC u pu) _ (url_range HU60.out) Tryz.underlying29 rfl info_url ?_)
      refine (HT21.out _).mono ?_
      rintro e w14 ⟨rfl,hb14⟩
      have HU67:=hid (HU60.out.below (hb14))
      have HV68:=hid (HV61.out.below (hb14))
      have HA69:=hid (HA62.out.below (hb14))
      have HB70:=hid (HB63.out.below (hb14))
      have HC71:=hid (HC64.out.below (hb14))
      have HD72:=hid (HD65.out.below (hb14))
      have HB73:=hid (HB66.out.trans ((hb14).mono HB66.out.size))
      clear HU60 HV61 HA62 HB63 HC64 HD65 HB66
      clear hb14
      clear HT12 HT21
      go_upto_region 12 with (first | refine load_onU (by rfl) 35 _ rfl O3 0 rfl (orgC c) _ (org_range HC71.out) Tryz.underlying35 rfl info_org ?_ | refine load_onU (by rfl) 35 _ rfl O4 0 rfl (orgC d) _ (org_range HD72.out) Tryz.underlying35 rfl info_org ?_ | fail)
      have hmm:=@run_makeMap Tryz.prog
      have hpn:(Instr.mapUpdate MpT (.map (some w14.heap.size)) (.agg (orgC o).toArray) (.int .i64 3)).run Tryz.prog (w14.alloc (.map #[] 0))=.ok () (putObjH (w14.alloc (.map #[] 0)) w14.heap.size (.map #[⟨orgV o,.int .i64 3,0⟩] 1)):=put_newO (heap_alloc_new w14 (.map #[] 0)) o (.int .i64 3)
      have HMn:Hid (MpAt (putObjH (w14.alloc (.map #[] 0)) w14.heap.size (.map #[⟨orgV o,.int .i64 3,0⟩] 1)) w14.heap.size #[⟨orgV o,.int .i64 3,0⟩] 1):=hid (MpAt.put (w:=w14.alloc (.map #[] 0)) (heap_alloc_new w14 (.map #[] 0)))
      have hbn:Below w14.heap.size w14 (putObjH (w14.alloc (.map #[] 0)) w14.heap.size (.map #[⟨orgV o,.int .i64 3,0⟩] 1)):=putO_below (ballC w14 _) (Nat.le_refl _) _
      have HAl:=hid (HA69.out.below (ballC w14 (.map #[] 0)))
      have HU74:=hid (HU67.out.below (hbn))
      have HA75:=hid (HA69.out.below (hbn))
      have HB76:=hid (HB70.out.below (hbn))
      have HB77:=hid (HB73.out.trans ((hbn).mono HB73.out.size))
      clear HU67 HA69 HB70 HB73
      clear hbn
      go_upto_region 13 with (refine wpList_load_mid rfl 35 _ rfl O1 0 rfl (orgC o) _ (org_range HAl.out) Tryz.underlying35 rfl info_org ?_)
      generalize (putObjH (w14.alloc (.map #[] 0)) w14.heap.size (.map #[⟨orgV o,.int .i64 3,0⟩] 1))=w15 at *
      generalize w14.heap.size=M at *
      clear hmm hpn HAl
      have lU:U1 < w15.heap.size:=HU74.out.lt
      have lA:O1 < w15.heap.size:=HA75.out.lt
      have lB:O2 < w15.heap.size:=HB76.out.lt
      have lM:M < w15.heap.size:=mp_lt HMn.out
      have LU:Hid (U1 < w15.heap.size∧O1 < w15.heap.size∧O2 < w15.heap.size∧M < w15.heap.size):=hid ⟨lU,lA,lB,lM⟩
      clear lU lA lB lM
      have LW:Hid (w.heap.size≤w15.heap.size):=hid HB77.out.size
      have HLd:=hid HU74.out
      have HNn:=hid (new_url w15 u pu)
      have HU78:=hid (HU74.out.below (HNn.out.2))
      have HA79:=hid (HA75.out.below (HNn.out.2))
      have HB80:=hid (HB76.out.below (HNn.out.2))
      have HM81:=hid (HMn.out.below (HNn.out.2))
      have HB82:=hid (HB77.out.trans ((HNn.out.2).mono HB77.out.size))
      clear HU74 HA75 HB76 HMn HB77
      have HW83:=hid HNn.out.1
      clear HNn
      go_upto_region 14 with (first | refine wpList_load_mid rfl 29 _ rfl U1 0 rfl (urlC u pu) _ (url_range HLd.out) Tryz.underlying29 rfl info_url ?_ | (refine wpList_store_mid rfl 29 _ _ rfl w15.heap.size 0 (urlC u pu).toArray rfl rfl (new_urlT _) info_url (url_one u pu HOU.out) ?_;try simp only [List.toList_toArray];generalize (w15.alloc (.cells #[.string ⟨#[]⟩,.string ⟨#[]⟩,.string ⟨#[]⟩,.bool false,.int .i64 0,.string ⟨#[]⟩,.int .u32 0,.int .u16 0,.int .u16 0,.int .u16 0,.int .u16 0,.int .u16 0,.int .u16 0,.int .u16 0,.int .u16 0,.int .i64 0,.bool false,.string ⟨#[]⟩,.slice none 0 0,.bool false,.string ⟨#[]⟩,.bool false,.string ⟨#[]⟩] UT)).setCells w15.heap.size 0 (urlC u pu)=w16 at *;generalize w15.heap.size=WB at *))
      clear HLd
      have hal:Below w16.heap.size w16 (w16.alloc (.cells #[.string ⟨#[111,116,104,101,114]⟩] 9)):=ballC _ _
      have HU84:=hid (HU78.out.below (hal))
      have HA85:=hid (HA79.out.below (hal))
      have HB86:=hid (HB80.out.below (hal))
      have HM87:=hid (HM81.out.below (hal))
      have HW88:=hid (HW83.out.below (hal))
      have HB89:=hid (HB82.out.trans ((hal).mono HB82.out.size))
      clear HU78 HA79 HB80 HM81 HW83 HB82
      clear hal
      have s18:=(HW88.out.cell 18 rfl).1
      have z18:=(HW88.out.cell 18 rfl).2
      have s20:=((HW88.out.set 18 (.slice (some ⟨w16.heap.size,0,none⟩) 1 1)).cell 20 rfl).1
      have z20:=((HW88.out.set 18 (.slice (some ⟨w16.heap.size,0,none⟩) 1 1)).cell 20 rfl).2
      have s19:=(((HW88.out.set 18 (.slice (some ⟨w16.heap.size,0,none⟩) 1 1)).set 20 (.string ⟨#[113]⟩)).cell 19 rfl).1
      have z19:=(((HW88.out.set 18 (.slice (some ⟨w16.heap.size,0,none⟩) 1 1)).set 20 (.string ⟨#[113]⟩)).cell 19 rfl).2
      have s1:=((((HW88.out.set 18 (.slice (some ⟨w16.heap.size,0,none⟩) 1 1)).set 20 (.string ⟨#[113]⟩)).set 19 (.bool true)).cell 1 rfl).1
      have z1:=((((HW88.out.set 18 (.slice (some ⟨w16.heap.size,0,none⟩) 1 1)).set 20 (.string ⟨#[113]⟩)).set 19 (.bool true)).cell 1 rfl).2
      have HWf:Hid (Bc UT (((((w16.alloc (.cells #[.string ⟨#[111,116,104,101,114]⟩] 9)).setCell ⟨WB,18,none⟩ (.slice (some ⟨w16.heap.size,0,none⟩) 1 1)).setCell ⟨WB,20,none⟩ (.string ⟨#[113]⟩)).setCell ⟨WB,19,none⟩ (.bool true)).setCell ⟨WB,1,none⟩ (.string ⟨#[115,111,109,101,98,111,100,121]⟩)) WB (urlC ({ u with path:=[[111,116,104,101,114]],qry:=[113],hasQ:=true,usr:=[115,111,109,101,98,111,100,121] }) (.slice (some ⟨w16.heap.size,0,none⟩) 1 1))):=hid ((((HW88.out.set 18 (.slice (some ⟨w16.heap.size,0,none⟩) 1 1)).set 20 (.string ⟨#[113]⟩)).set 19 (.bool true)).set 1 (.string ⟨#[115,111,109,101,98,111,100,121]⟩))
      have HUf:Hid (Bc UT (((((w16.alloc (.cells #[.string ⟨#[111,116,104,101,114]⟩] 9)).setCell ⟨WB,18,none⟩ (.slice (some ⟨w16.heap.size,0,none⟩) 1 1)).setCell ⟨WB,20,none⟩ (.string ⟨#[113]⟩)).setCell ⟨WB,19,none⟩ (.bool true)).setCell ⟨WB,1,none⟩ (.string ⟨#[115,111,109,101,98,111,100,121]⟩)) U1 (urlC u pu)):=by
       have h:=LU.out
       exact hid ((((HU84.out.kept (heap_setCell_other _ _ _ _ (by show _≠WB;omega))).kept (heap_setCell_other _ _ _ _ (by show _≠WB;omega))).kept (heap_setCell_other _ _ _ _ (by show _≠WB;omega))).kept (heap_setCell_other _ _ _ _ (by show _≠WB;omega)))
      have HAf:Hid (Bc OT (((((w16.alloc (.cells #[.string ⟨#[111,116,104,101,114]⟩] 9)).setCell ⟨WB,18,none⟩ (.slice (some ⟨w16.heap.size,0,none⟩) 1 1)).setCell ⟨WB,20,none⟩ (.string ⟨#[113]⟩)).setCell ⟨WB,19,none⟩ (.bool true)).setCell ⟨WB,1,none⟩ (.string ⟨#[115,111,109,101,98,111,100,121]⟩)) O1 (orgC o)):=by
       have h:=LU.out
       exact hid ((((HA85.out.kept (heap_setCell_other _ _ _ _ (by show _≠WB;omega))).kept (heap_setCell_other _ _ _ _ (by show _≠WB;omega))).kept (heap_setCell_other _ _ _ _ (by show _≠WB;omega))).kept (heap_setCell_other _ _ _ _ (by show _≠WB;omega)))
      have HBo:Hid (Bc OT (((((w16.alloc (.cells #[.string ⟨#[111,116,104,101,114]⟩] 9)).setCell ⟨WB,18,none⟩ (.slice (some ⟨w16.heap.size,0,none⟩) 1 1)).setCell ⟨WB,20,none⟩ (.string ⟨#[113]⟩)).setCell ⟨WB,19,none⟩ (.bool true)).setCell ⟨WB,1,none⟩ (.string ⟨#[115,111,109,101,98,111,100,121]⟩)) O2 (orgC p)):=by
       have h:=LU.out
       exact hid ((((HB86.out.kept (heap_setCell_other _ _ _ _ (by show _≠WB;omega))).kept (heap_setCell_other _ _ _ _ (by show _≠WB;omega))).kept (heap_setCell_other _ _ _ _ (by show _≠WB;omega))).kept (heap_setCell_other _ _ _ _ (by show _≠WB;omega)))
      have HMf:Hid (MpAt (((((w16.alloc (.cells #[.string ⟨#[111,116,104,101,114]⟩] 9)).setCell ⟨WB,18,none⟩ (.slice (some ⟨w16.heap.size,0,none⟩) 1 1)).setCell ⟨WB,20,none⟩ (.string ⟨#[113]⟩)).setCell ⟨WB,19,none⟩ (.bool true)).setCell ⟨WB,1,none⟩ (.string ⟨#[115,111,109,101,98,111,100,121]⟩)) M #[⟨orgV o,.int .i64 3,0⟩] 1):=by
       have h:=LU.out
       have e:∀(v:World) (i:Nat) (x:Value),MpAt v M #[⟨orgV o,.int .i64 3,0⟩] 1→MpAt (v.setCell ⟨WB,i,none⟩ x) M #[⟨orgV o,.int .i64 3,0⟩] 1:=fun v i x h2=>(heap_setCell_other v _ _ _ (by show _≠WB;omega)).trans h2
       exact hid (e _ _ _ (e _ _ _ (e _ _ _ (e _ _ _ HM87.out))))
      have HBf:Hid (Below w.heap.size w (((((w16.alloc (.cells #[.string ⟨#[111,116,104,101,114]⟩] 9)).setCell ⟨WB,18,none⟩ (.slice (some ⟨w16.heap.size,0,none⟩) 1 1)).setCell ⟨WB,20,none⟩ (.string ⟨#[113]⟩)).setCell ⟨WB,19,none⟩ (.bool true)).setCell ⟨WB,1,none⟩ (.string ⟨#[115,111,109,101,98,111,100,121]⟩))):=hid ((((HB89.out.setCell (p:=⟨WB,18,none⟩) LW.out _).setCell (p:=⟨WB,20,none⟩) LW.out _).setCell (p:=⟨WB,19,none⟩) LW.out _).setCell (p:=⟨WB,1,none⟩) LW.out _)
      clear HU84 HA85 HB86 HW88 HM87 HB89
      go_upto_region 15 with fail
      try clear s18
      try clear z18
      try clear s20
      try clear z20
      try clear s19
      try clear z19
      try clear s1
      try clear z1
      generalize (((((w16.alloc (.cells #[.string ⟨#[111,116,104,101,114]⟩] 9)).setCell ⟨WB,18,none⟩ (.slice (some ⟨w16.heap.size,0,none⟩) 1 1)).setCell ⟨WB,20,none⟩ (.string ⟨#[113]⟩)).setCell ⟨WB,19,none⟩ (.bool true)).setCell ⟨WB,1,none⟩ (.string ⟨#[115,111,109,101,98,111,100,121]⟩))=w17 at *
      generalize w16.heap.size=PB at *
      go_wp2_with (refine wpList_load_mid rfl 29 _ rfl WB 0 rfl (urlC ({ u with path:=[[111,116,104,101,114]],qry:=[113],hasQ:=true,usr:=[115,111,109,101,98,111,100,121] }) (.slice (some ⟨PB,0,none⟩) 1 1)) _ (url_range HWf.out) Tryz.underlying29 rfl info_url ?_)
      refine (HOW.out (.slice (some ⟨PB,0,none⟩) 1 1) _).mono ?_
      rintro e w18 ⟨rfl,hb18⟩
      have HU90:=hid (HUf.out.below (hb18))
      have HA91:=hid (HAf.out.below (hb18))
      have HB92:=hid (HBo.out.below (hb18))
      have HW93:=hid (HWf.out.below (hb18))
      have HM94:=hid (HMf.out.below (hb18))
      have HB95:=hid (HBf.out.trans ((hb18).mono HBf.out.size))
      clear HUf HAf HBo HWf HMf HBf
      clear hb18
      have HNn:=hid (new_org w18 o)
      have HU96:=hid (HU90.out.below (HNn.out.2))
      have HA97:=hid (HA91.out.below (HNn.out.2))
      have HB98:=hid (HB92.out.below (HNn.out.2))
      have HW99:=hid (HW93.out.below (HNn.out.2))
      have HM100:=hid (HM94.out.below (HNn.out.2))
      have HB101:=hid (HB95.out.trans ((HNn.out.2).mono HB95.out.size))
      clear HU90 HA91 HB92 HW93 HM94 HB95
      have HX102:=hid HNn.out.1
      clear HNn
      go_upto_region 16 with (refine wpList_store_mid rfl 35 _ _ rfl w18.heap.size 0 (orgC o).toArray rfl rfl (new_there _) info_org (org_one _) ?_;try simp only [List.toList_toArray];generalize (w18.alloc (.cells #[.string ⟨#[]⟩,.int .i64 0,.string ⟨#[]⟩,.int .u32 0,.int .u16 0,.int .u16 0,.int .u16 0,.int .u16 0,.int .u16 0,.int .u16 0,.int .u16 0,.int .u16 0,.int .i64 0] OT)).setCells w18.heap.size 0 (orgC o)=w19 at *;generalize w18.heap.size=O5 at *)
      have HS0:Hid (SsAt w19 U1 WB O1 O2 O5 M u ({ u with path:=[[111,116,104,101,114]],qry:=[113],hasQ:=true,usr:=[115,111,109,101,98,111,100,121] }) pu (.slice (some ⟨PB,0,none⟩) 1 1) o p):=hid ⟨HU96.out,HW99.out,HA97.out,HB98.out,HX102.out,HM100.out⟩
      have HSd:=hid (HS0.out.below ((Below.refl w19.heap.size w19).drew))
      have HBd:=hid (HB101.out.drew)
      clear HS0 HU96 HA97 HB98 HW99 HM100 HX102 HB101
      obtain ⟨tt,htt⟩:∃tt,sameO o p=tt:=⟨_,rfl⟩
      obtain ⟨kk,hkk⟩:∃kk:Int,(if tt=true then (3:Int) else 0)=kk:=⟨_,rfl⟩
      have hlk:∀w,SsAt w U1 WB O1 O2 O5 M u ({ u with path:=[[111,116,104,101,114]],qry:=[113],hasQ:=true,usr:=[115,111,109,101,98,111,100,121] }) pu (.slice (some ⟨PB,0,none⟩) 1 1) o p→(Instr.lookup MpT (.map (some M)) (.agg (orgC p).toArray) false).run Tryz.prog w=.ok (.int .i64 kk) w:=fun w h=>by have:=look_oneO h.2.2.2.2.2 p;rw [HEQ.out,htt,hkk] at this;exact this
      have hqa:∀w,(Op.equalIn 10000 OT (.agg (orgC o).toArray) (.agg (orgC p).toArray)).run Tryz.prog w=.ok tt w:=fun w=>by rw [eq_orgC,htt]
      have hqs:∀w,(Op.equalIn 10000 OT (.agg (orgC o).toArray) (.agg (orgC o).toArray)).run Tryz.prog w=.ok true w:=fun w=>by rw [eq_orgC,sameO_self]
      have h9:(kk==3)=tt:=by rw [← hkk];exact three_eq tt
      clear htt hkk
      have hqa2:∀w,(Op.equal OT (.agg (orgC o).toArray) (.agg (orgC p).toArray)).run Tryz.prog w=.ok tt w:=hqa
      have hqs2:∀w,(Op.equal OT (.agg (orgC o).toArray) (.agg (orgC o).toArray)).run Tryz.prog w=.ok true w:=hqs
      have HQA2:=hid hqa2
      have HQS2:=hid hqs2
      clear hqa2 hqs2
      have HLK:=hid hlk
      have HQA:=hid hqa
      have HQS:=hid hqs
      have H9:=hid h9
      clear hlk hqa hqs h9
      refine wp_region_held_drew (S:=fun w'=>SsAt w' U1 WB O1 O2 O5 M u ({ u with path:=[[111,116,104,101,114]],qry:=[113],hasQ:=true,usr:=[115,111,109,101,98,111,100,121] }) pu (.slice (some ⟨PB,0,none⟩) 1 1) o p) (by kernel_rfl) ?_ (fun hHeld=>?_)
      ·exact HSd.out
      refine wpAnyH_ready (rs:=[0]) (by kernel_rfl) (by simp) ?_
      refine' AllReadyH.cons (by simp only [List.getElem?_toArray,List.getElem?_cons_succ,List.getElem?_cons_zero];rfl) (fun K hK=>?_) AllReadyH.nil
      go_simp
      refine (HFst.out _ HBd.out).mono ?_
      rintro e wa ⟨rfl,hb⟩
      have HSe:=hid (HSd.out.below hb)
      have HBe:=hid (HBd.out.trans (hb.mono HBd.out.size))
      clear hb HSd HBd
      have HSd:=hid HSe.out
      have HBd:=hid HBe.out
      clear HSe HBe
      go_wp2_with fail
      refine hK.out _ _ ?_ (fun hHeld=>?_)
      ·exact HSd.out
      clear hK K
      try simp only [Act.put,List.setIfInBounds_toArray,List.set_cons_zero,List.set_cons_succ]
      refine' wpAnyH_take (i:=1) (v:=?_) (by simp only [List.getElem?_toArray,List.getElem?_cons_succ,List.getElem?_cons_zero];rfl) (by kernel_rfl) (by kernel_rfl) (by kernel_rfl) (by intro _ _ _ h;exact h) (Or.inl ⟨by rfl,?hy1x1⟩) hHeld ?rs1x1
      case hy1x1=>(intro w hSw;clear hSw;go_simp;try with_reducible rfl)
      try simp only [Act.put,List.setIfInBounds_toArray,List.set_cons_zero,List.set_cons_succ]
      refine' wpAnyH_take (i:=2) (v:=?_) (by simp only [List.getElem?_toArray,List.getElem?_cons_succ,List.getElem?_cons_zero];rfl) (by kernel_rfl) (by kernel_rfl) (by kernel_rfl) (by intro _ _ _ h;exact h) (Or.inl ⟨by rfl,?hy1x2⟩) hHeld ?rs1x2
      case hy1x2=>(intro w hSw;clear hSw;go_simp;try with_reducible rfl)
      try simp only [Act.put,List.setIfInBounds_toArray,List.set_cons_zero,List.set_cons_succ]
      refine' wpAnyH_take (i:=3) (v:=_) (by simp only [List.getElem?_toArray,List.getElem?_cons_succ,List.getElem?_cons_zero];rfl) (by kernel_rfl) (by kernel_rfl) (by kernel_rfl) (by intro _ _ _ h;exact h) (yieldsIf_load_mid (by rfl) 35 _ rfl O2 0 rfl (orgC p) _ (fun w h=>org_range h.2.2.2.1) Tryz.underlying35 rfl info_org) hHeld ?rs1x3
      try simp only [Act.put,List.setIfInBounds_toArray,List.set_cons_zero,List.set_cons_succ]
      refine' wpAnyH_take (i:=4) (v:=?_) (by simp only [List.getElem?_toArray,List.getElem?_cons_succ,List.getElem?_cons_zero];rfl) (by kernel_rfl) (by kernel_rfl) (by kernel_rfl) (by intro _ _ _ h;exact h) (Or.inl ⟨by rfl,?hy1x4⟩) hHeld ?rs1x4
      case hy1x4=>(intro w hSw;have hl:=HLK.out w hSw;clear hSw;go_simp;try with_reducible rfl)
      try simp only [Act.put,List.setIfInBounds_toArray,List.set_cons_zero,List.set_cons_succ]
      refine' wpAnyH_take (i:=5) (v:=.bool tt) (by simp only [List.getElem?_toArray,List.getElem?_cons_succ,List.getElem?_cons_zero];rfl) (by kernel_rfl) (by kernel_rfl) (by kernel_rfl) (by intro _ _ _ h;exact h) (Or.inl ⟨by rfl,?hy1x5⟩) hHeld ?rs1x5
      case hy1x5=>(intro w hSw;have hl:=H9.out;clear hSw;go_simp;try (first | rfl | simp [hl]))
      try simp only [Act.put,List.setIfInBounds_toArray,List.set_cons_zero,List.set_cons_succ]
      refine' wpAnyH_take (i:=6) (v:=_) (by simp only [List.getElem?_toArray,List.getElem?_cons_succ,List.getElem?_cons_zero];rfl) (by kernel_rfl) (by kernel_rfl) (by kernel_rfl) (by intro _ _ _ h;exact h) (yieldsIf_load_mid (by rfl) 35 _ rfl O1 0 rfl (orgC o) _ (fun w h=>org_range h.2.2.1) Tryz.underlying35 rfl info_org) hHeld ?rs1x6
      try simp only [Act.put,List.setIfInBounds_toArray,List.set_cons_zero,List.set_cons_succ]
      refine' wpAnyH_take (i:=7) (v:=_) (by simp only [List.getElem?_toArray,List.getElem?_cons_succ,List.getElem?_cons_zero];rfl) (by kernel_rfl) (by kernel_rfl) (by kernel_rfl) (by intro _ _ _ h;exact h) (yieldsIf_load_mid (by rfl) 35 _ rfl O2 0 rfl (orgC p) _ (fun w h=>org_range h.2.2.2.1) Tryz.underlying35 rfl info_org) hHeld ?rs1x7
      try simp only [Act.put,List.setIfInBounds_toArray,List.set_cons_zero,List.set_cons_succ]
      refine' wpAnyH_take (i:=8) (v:=?_) (by simp only [List.getElem?_toArray,List.getElem?_cons_succ,List.getElem?_cons_zero];rfl) (by kernel_rfl) (by kernel_rfl) (by kernel_rfl) (by intro _ _ _ h;exact h) (Or.inl ⟨by rfl,?hy1x8⟩) hHeld ?rs1x8
      case hy1x8=>(intro w hSw;clear hSw;have hl:=HQA.out;have hl2:=HQA2.out;go_simp;try with_reducible rfl)
      try simp only [Act.put,List.setIfInBounds_toArray,List.set_cons_zero,List.set_cons_succ]
      refine' wpAnyH_take (i:=9) (v:=.bool true) (by simp only [List.getElem?_toArray,List.getElem?_cons_succ,List.getElem?_cons_zero];rfl) (by kernel_rfl) (by kernel_rfl) (by kernel_rfl) (by intro _ _ _ h;exact h) (Or.inl ⟨by rfl,?hy1x9⟩) hHeld ?rs1x9
      case hy1x9=>(intro w hSw;have hl:=H9.out;clear hSw;go_simp;try (first | rfl | simp [hl]))
      try simp only [Act.put,List.setIfInBounds_toArray,List.set_cons_zero,List.set_cons_succ]
      refine' wpAnyH_take (i:=10) (v:=?_) (by simp only [List.getElem?_toArray,List.getElem?_cons_succ,List.getElem?_cons_zero];rfl) (by kernel_rfl) (by kernel_rfl) (by kernel_rfl) (by intro _ _ _ h;exact h) (Or.inl ⟨by rfl,?hy1x10⟩) hHeld ?rs1x10
      case hy1x10=>(intro w hSw;clear hSw;go_simp;try with_reducible rfl)
      try simp only [Act.put,List.setIfInBounds_toArray,List.set_cons_zero,List.set_cons_succ]
      refine' wpAnyH_take (i:=11) (v:=?_) (by simp only [List.getElem?_toArray,List.getElem?_cons_succ,List.getElem?_cons_zero];rfl) (by kernel_rfl) (by kernel_rfl) (by kernel_rfl) (by intro _ _ _ h;exact h) (Or.inl ⟨by rfl,?hy1x11⟩) hHeld ?rs1x11
      case hy1x11=>(intro w hSw;clear hSw;go_simp;try with_reducible rfl)
      try simp only [Act.put,List.setIfInBounds_toArray,List.set_cons_zero,List.set_cons_succ]
      refine' wpAnyH_take (i:=12) (v:=_) (by simp only [List.getElem?_toArray,List.getElem?_cons_succ,List.getElem?_cons_zero];rfl) (by kernel_rfl) (by kernel_rfl) (by kernel_rfl) (by intro _ _ _ h;exact h) (yieldsIf_load_mid (by rfl) 35 _ rfl O5 0 rfl (orgC o) _ (fun w h=>org_range h.2.2.2.2.1) Tryz.underlying35 rfl info_org) hHeld ?rs1x12
      try simp only [Act.put,List.setIfInBounds_toArray,List.set_cons_zero,List.set_cons_succ]
      refine' wpAnyH_take (i:=13) (v:=_) (by simp only [List.getElem?_toArray,List.getElem?_cons_succ,List.getElem?_cons_zero];rfl) (by kernel_rfl) (by kernel_rfl) (by kernel_rfl) (by intro _ _ _ h;exact h) (yieldsIf_load_mid (by rfl) 35 _ rfl O1 0 rfl (orgC o) _ (fun w h=>org_range h.2.2.1) Tryz.underlying35 rfl info_org) hHeld ?rs1x13
      try simp only [Act.put,List.setIfInBounds_toArray,List.set_cons_zero,List.set_cons_succ]
      refine' wpAnyH_take (i:=14) (v:=?_) (by simp only [List.getElem?_toArray,List.getElem?_cons_succ,List.getElem?_cons_zero];rfl) (by kernel_rfl) (by kernel_rfl) (by kernel_rfl) (by intro _ _ _ h;exact h) (Or.inl ⟨by rfl,?hy1x14⟩) hHeld ?rs1x14
      case hy1x14=>(intro w hSw;clear hSw;have hl:=HQS.out;have hl2:=HQS2.out;go_simp;try with_reducible rfl)
      try simp only [Act.put,List.setIfInBounds_toArray,List.set_cons_zero,List.set_cons_succ]
      refine' wpAnyH_take (i:=15) (v:=?_) (by simp only [List.getElem?_toArray,List.getElem?_cons_succ,List.getElem?_cons_zero];rfl) (by kernel_rfl) (by kernel_rfl) (by kernel_rfl) (by intro _ _ _ h;exact h) (Or.inl ⟨by rfl,?hy1x15⟩) hHeld ?rs1x15
      case hy1x15=>(intro w hSw;clear hSw;go_simp;try with_reducible rfl)
      try simp only [Act.put,List.setIfInBounds_toArray,List.set_cons_zero,List.set_cons_succ]
      refine' wpAnyH_take (i:=16) (v:=?_) (by simp only [List.getElem?_toArray,List.getElem?_cons_succ,List.getElem?_cons_zero];rfl) (by kernel_rfl) (by kernel_rfl) (by kernel_rfl) (by intro _ _ _ h;exact h) (Or.inl ⟨by rfl,?hy1x16⟩) hHeld ?rs1x16
      case hy1x16=>(intro w hSw;clear hSw;go_simp;try with_reducible rfl)
      try simp only [Act.put,List.setIfInBounds_toArray,List.set_cons_zero,List.set_cons_succ]
      refine' wpAnyH_take (i:=17) (v:=?_) (by simp only [List.getElem?_toArray,List.getElem?_cons_succ,List.getElem?_cons_zero];rfl) (by kernel_rfl) (by kernel_rfl) (by kernel_rfl) (by intro _ _ _ h;exact h) (Or.inl ⟨by rfl,?hy1x17⟩) hHeld ?rs1x17
      case hy1x17=>(intro w hSw;clear hSw;go_simp;try with_reducible rfl)
      try simp only [Act.put,List.setIfInBounds_toArray,List.set_cons_zero,List.set_cons_succ]
      refine' wpAnyH_take (i:=18) (v:=?_) (by simp only [List.getElem?_toArray,List.getElem?_cons_succ,List.getElem?_cons_zero];rfl) (by kernel_rfl) (by kernel_rfl) (by kernel_rfl) (by intro _ _ _ h;exact h) (Or.inl ⟨by rfl,?hy1x18⟩) hHeld ?rs1x18
      case hy1x18=>(intro w hSw;clear hSw;go_simp;try with_reducible rfl)
      try simp only [Act.put,List.setIfInBounds_toArray,List.set_cons_zero,List.set_cons_succ]
      refine' wpAnyH_take (i:=19) (v:=?_) (by simp only [List.getElem?_toArray,List.getElem?_cons_succ,List.getElem?_cons_zero];rfl) (by kernel_rfl) (by kernel_rfl) (by kernel_rfl) (by intro _ _ _ h;exact h) (Or.inl ⟨by rfl,?hy1x19⟩) hHeld ?rs1x19
      case hy1x19=>(intro w hSw;clear hSw;go_simp;try with_reducible rfl)
      try simp only [Act.put,List.setIfInBounds_toArray,List.set_cons_zero,List.set_cons_succ]
      refine' wpAnyH_take (i:=20) (v:=?_) (by simp only [List.getElem?_toArray,List.getElem?_cons_succ,List.getElem?_cons_zero];rfl) (by kernel_rfl) (by kernel_rfl) (by kernel_rfl) (by intro _ _ _ h;exact h) (Or.inl ⟨by rfl,?hy1x20⟩) hHeld ?rs1x20
      case hy1x20=>(intro w hSw;clear hSw;go_simp;try with_reducible rfl)
      try simp only [Act.put,List.setIfInBounds_toArray,List.set_cons_zero,List.set_cons_succ]
      refine' wpAnyH_take (i:=21) (v:=?_) (by simp only [List.getElem?_toArray,List.getElem?_cons_succ,List.getElem?_cons_zero];rfl) (by kernel_rfl) (by kernel_rfl) (by kernel_rfl) (by intro _ _ _ h;exact h) (Or.inl ⟨by rfl,?hy1x21⟩) hHeld ?rs1x21
      case hy1x21=>(intro w hSw;clear hSw;go_simp;try with_reducible rfl)
      try simp only [Act.put,List.setIfInBounds_toArray,List.set_cons_zero,List.set_cons_succ]
      refine' wpAnyH_take (i:=22) (v:=?_) (by simp only [List.getElem?_toArray,List.getElem?_cons_succ,List.getElem?_cons_zero];rfl) (by kernel_rfl) (by kernel_rfl) (by kernel_rfl) (by intro _ _ _ h;exact h) (Or.inl ⟨by rfl,?hy1x22⟩) hHeld ?rs1x22
      case hy1x22=>(intro w hSw;clear hSw;go_simp;try with_reducible rfl)
      try simp only [Act.put,List.setIfInBounds_toArray,List.set_cons_zero,List.set_cons_succ]
      refine' wpAnyH_take (i:=23) (v:=?_) (by simp only [List.getElem?_toArray,List.getElem?_cons_succ,List.getElem?_cons_zero];rfl) (by kernel_rfl) (by kernel_rfl) (by kernel_rfl) (by intro _ _ _ h;exact h) (Or.inl ⟨by rfl,?hy1x23⟩) hHeld ?rs1x23
      case hy1x23=>(intro w hSw;clear hSw;go_simp;try with_reducible rfl)
      try simp only [Act.put,List.setIfInBounds_toArray,List.set_cons_zero,List.set_cons_succ]
      refine' wpAnyH_take (i:=24) (v:=?_) (by simp only [List.getElem?_toArray,List.getElem?_cons_succ,List.getElem?_cons_zero];rfl) (by kernel_rfl) (by kernel_rfl) (by kernel_rfl) (by intro _ _ _ h;exact h) (Or.inl ⟨by rfl,?hy1x24⟩) hHeld ?rs1x24
      case hy1x24=>(intro w hSw;clear hSw;go_simp;try with_reducible rfl)
      try simp only [Act.put,List.setIfInBounds_toArray,List.set_cons_zero,List.set_cons_succ]
      refine' wpAnyH_take (i:=25) (v:=undef) (by simp only [List.getElem?_toArray,List.getElem?_cons_succ,List.getElem?_cons_zero];rfl) (by kernel_rfl) (by kernel_rfl) (by kernel_rfl) (by intro _ _ _ h;exact h) (Or.inr ⟨by rfl,rfl⟩) hHeld ?_
      try simp only [Act.put,List.setIfInBounds_toArray,List.set_cons_zero,List.set_cons_succ]
      refine' wpAnyH_take (i:=26) (v:=undef) (by simp only [List.getElem?_toArray,List.getElem?_cons_succ,List.getElem?_cons_zero];rfl) (by kernel_rfl) (by kernel_rfl) (by kernel_rfl) (by intro _ _ _ h;exact h) (Or.inr ⟨by rfl,rfl⟩) hHeld ?_
      try simp only [Act.put,List.setIfInBounds_toArray,List.set_cons_zero,List.set_cons_succ]
      refine wpAnyH_ready (rs:=[27]) (by kernel_rfl) (by simp) ?_
      refine' AllReadyH.cons (by simp only [List.getElem?_toArray,List.getElem?_cons_succ,List.getElem?_cons_zero];rfl) (fun K hK=>?_) AllReadyH.nil
      go_simp
      refine hK.out _ _ ?_ (fun hHeld=>?_)
      ·exact HSd.out
      clear hK K
      try simp only [Act.put,List.setIfInBounds_toArray,List.set_cons_zero,List.set_cons_succ]
      refine' wpAnyH_take (i:=28) (v:=?_) (by simp only [List.getElem?_toArray,List.getElem?_cons_succ,List.getElem?_cons_zero];rfl) (by kernel_rfl) (by kernel_rfl) (by kernel_rfl) (by intro _ _ _ h;exact h) (Or.inl ⟨by rfl,?hy1x28⟩) hHeld ?rs1x28
      case hy1x28=>(intro w hSw;clear hSw;go_simp;try with_reducible rfl)
      try simp only [Act.put,List.setIfInBounds_toArray,List.set_cons_zero,List.set_cons_succ]
      refine' wpAnyH_take (i:=29) (v:=?_) (by simp only [List.getElem?_toArray,List.getElem?_cons_succ,List.getElem?_cons_zero];rfl) (by kernel_rfl) (by kernel_rfl) (by kernel_rfl) (by intro _ _ _ h;exact h) (Or.inl ⟨by rfl,?hy1x29⟩) hHeld ?rs1x29
      case hy1x29=>(intro w hSw;clear hSw;go_simp;try with_reducible rfl)
      try simp only [Act.put,List.setIfInBounds_toArray,List.set_cons_zero,List.set_cons_succ]
      refine wpAnyH_ready (rs:=[30]) (by kernel_rfl) (by simp) ?_
      refine' AllReadyH.cons (by simp only [List.getElem?_toArray,List.getElem?_cons_succ,List.getElem?_cons_zero];rfl) (fun K hK=>?_) AllReadyH.nil
      go_simp
      all_goals
       refine hK.out _ _ ?_ (fun hHeld=>?_)
       ·exact HSd.out
       clear hK K
       try simp only [Act.put,List.setIfInBounds_toArray,List.set_cons_zero,List.set_cons_succ]
       refine wpAnyH_done (by kernel_rfl) ?_ _
       go_wp2_with fail
       all_goals
        go_ret
        exact ⟨by first | rfl | (simp;done) | (simp [sameO_self];done) | simp_all,HBd.out⟩
    ·cases h0
     ·have HT12:Hid (∀w,Calls Tryz.prog 18 #[.agg (urlC u pu).toArray,.agg (urlC v pv).toArray] w fun e w2=>e=.returned (.bool false)∧Below w.heap.size w w2):=HS12
      have HT21:Hid (∀w,Calls Tryz.prog 18 #[.agg (urlC v pv).toArray,.agg (urlC u pu).toArray] w fun e w2=>e=.returned (.bool false)∧Below w.heap.size w w2):=HS21
      clear HS12 HS21
      have hq1:=fun w=>eq_orgC o p w
      have hq2:=fun w=>eqx_orgC o p w
      go_upto_region 10 with (first | refine load_onU (by rfl) 35 _ rfl O1 0 rfl (orgC o) _ (org_range HA55.out) Tryz.underlying35 rfl info_org ?_ | refine load_onU (by rfl) 35 _ rfl O2 0 rfl (orgC p) _ (org_range HB56.out) Tryz.underlying35 rfl info_org ?_)
      have HQ1:=hid hq1
      have HQ2:=hid hq2
      clear hq1 hq2
      go_wp2_with (first | refine wpList_load_mid rfl 29 _ rfl U1 0 rfl (urlC u pu) _ (url_range HU53.out) Tryz.underlying29 rfl info_url ?_ | refine wpList_load_mid rfl 29 _ rfl U2 0 rfl (urlC v pv) _ (url_range HV54.out) Tryz.underlying29 rfl info_url ?_)
      refine (HT12.out _).mono ?_
      rintro e w13 ⟨rfl,hb13⟩
      have HU60:=hid (HU53.out.below (hb13))
      have HV61:=hid (HV54.out.below (hb13))
      have HA62:=hid (HA55.out.below (hb13))
      have HB63:=hid (HB56.out.below (hb13))
      have HC64:=hid (HC57.out.below (hb13))
      have HD65:=hid (HD59.out.below (hb13))
      have HB66:=hid (HB58.out.trans ((hb13).mono HB58.out.size))
      clear HU53 HV54 HA55 HB56 HC57 HD59 HB58
      clear hb13
      go_wp2_with (first | refine load_onU (by rfl) 29 _ rfl U2 0 rfl (urlC v pv) _ (url_range HV61.out) Tryz.underlying29 rfl info_url ?_ | refine load_onU (by rfl) 29 _ rfl U1 0 rfl (urlC u pu) _ (url_range HU60.out) Tryz.underlying29 rfl info_url ?_)
      refine (HT21.out _).mono ?_
      rintro e w14 ⟨rfl,hb14⟩
      have HU67:=hid (HU60.out.below (hb14))
      have HV68:=hid (HV61.out.below (hb14))
      have HA69:=hid (HA62.out.below (hb14))
      have HB70:=hid (HB63.out.below (hb14))
      have HC71:=hid (HC64.out.below (hb14))
      have HD72:=hid (HD65.out.below (hb14))
      have HB73:=hid (HB66.out.trans ((hb14).mono HB66.out.size))
      clear HU60 HV61 HA62 HB63 HC64 HD65 HB66
      clear hb14
      clear HT12 HT21
      go_upto_region 12 with (first | refine load_onU (by rfl) 35 _ rfl O3 0 rfl (orgC c) _ (org_range HC71.out) Tryz.underlying35 rfl info_org ?_ | refine load_onU (by rfl) 35 _ rfl O4 0 rfl (orgC d) _ (org_range HD72.out) Tryz.underlying35 rfl info_org ?_ | fail)
      have hmm:=@run_makeMap Tryz.prog
      have hpn:(Instr.mapUpdate MpT (.map (some w14.heap.size)) (.agg (orgC o).toArray) (.int .i64 3)).run Tryz.prog (w14.alloc (.map #[] 0))=.ok () (putObjH (w14.alloc (.map #[] 0)) w14.heap.size (.map #[⟨orgV o,.int .i64 3,0⟩] 1)):=put_newO (heap_alloc_new w14 (.map #[] 0)) o (.int .i64 3)
      have HMn:Hid (MpAt (putObjH (w14.alloc (.map #[] 0)) w14.heap.size (.map #[⟨orgV o,.int .i64 3,0⟩] 1)) w14.heap.size #[⟨orgV o,.int .i64 3,0⟩] 1):=hid (MpAt.put (w:=w14.alloc (.map #[] 0)) (heap_alloc_new w14 (.map #[] 0)))
      have hbn:Below w14.heap.size w14 (putObjH (w14.alloc (.map #[] 0)) w14.heap.size (.map #[⟨orgV o,.int .i64 3,0⟩] 1)):=putO_below (ballC w14 _) (Nat.le_refl _) _
      have HAl:=hid (HA69.out.below (ballC w14 (.map #[] 0)))
      have HU74:=hid (HU67.out.below (hbn))
      have HA75:=hid (HA69.out.below (hbn))
      have HB76:=hid (HB70.out.below (hbn))
      have HB77:=hid (HB73.out.trans ((hbn).mono HB73.out.size))
      clear HU67 HA69 HB70 HB73
      clear hbn
      go_upto_region 13 with (refine wpList_load_mid rfl 35 _ rfl O1 0 rfl (orgC o) _ (org_range HAl.out) Tryz.underlying35 rfl info_org ?_)
      generalize (putObjH (w14.alloc (.map #[] 0)) w14.heap.size (.map #[⟨orgV o,.int .i64 3,0⟩] 1))=w15 at *
      generalize w14.heap.size=M at *
      clear hmm hpn HAl
      have lU:U1 < w15.heap.size:=HU74.out.lt
      have lA:O1 < w15.heap.size:=HA75.out.lt
      have lB:O2 < w15.heap.size:=HB76.out.lt
      have lM:M < w15.heap.size:=mp_lt HMn.out
      have LU:Hid (U1 < w15.heap.size∧O1 < w15.heap.size∧O2 < w15.heap.size∧M < w15.heap.size):=hid ⟨lU,lA,lB,lM⟩
      clear lU lA lB lM
      have LW:Hid (w.heap.size≤w15.heap.size):=hid HB77.out.size
      have HLd:=hid HU74.out
      have HNn:=hid (new_url w15 u pu)
      have HU78:=hid (HU74.out.below (HNn.out.2))
      have HA79:=hid (HA75.out.below (HNn.out.2))
      have HB80:=hid (HB76.out.below (HNn.out.2))
      have HM81:=hid (HMn.out.below (HNn.out.2))
      have HB82:=hid (HB77.out.trans ((HNn.out.2).mono HB77.out.size))
      clear HU74 HA75 HB76 HMn HB77
      have HW83:=hid HNn.out.1
      clear HNn
      go_upto_region 14 with (first | refine wpList_load_mid rfl 29 _ rfl U1 0 rfl (urlC u pu) _ (url_range HLd.out) Tryz.underlying29 rfl info_url ?_ | (refine wpList_store_mid rfl 29 _ _ rfl w15.heap.size 0 (urlC u pu).toArray rfl rfl (new_urlT _) info_url (url_one u pu HOU.out) ?_;try simp only [List.toList_toArray];generalize (w15.alloc (.cells #[.string ⟨#[]⟩,.string ⟨#[]⟩,.string ⟨#[]⟩,.bool false,.int .i64 0,.string ⟨#[]⟩,.int .u32 0,.int .u16 0,.int .u16 0,.int .u16 0,.int .u16 0,.int .u16 0,.int .u16 0,.int .u16 0,.int .u16 0,.int .i64 0,.bool false,.string ⟨#[]⟩,.slice none 0 0,.bool false,.string ⟨#[]⟩,.bool false,.string ⟨#[]⟩] UT)).setCells w15.heap.size 0 (urlC u pu)=w16 at *;generalize w15.heap.size=WB at *))
      clear HLd
      have hal:Below w16.heap.size w16 (w16.alloc (.cells #[.string ⟨#[111,116,104,101,114]⟩] 9)):=ballC _ _
      have HU84:=hid (HU78.out.below (hal))
      have HA85:=hid (HA79.out.below (hal))
      have HB86:=hid (HB80.out.below (hal))
      have HM87:=hid (HM81.out.below (hal))
      have HW88:=hid (HW83.out.below (hal))
      have HB89:=hid (HB82.out.trans ((hal).mono HB82.out.size))
      clear HU78 HA79 HB80 HM81 HW83 HB82
      clear hal
      have s18:=(HW88.out.cell 18 rfl).1
      have z18:=(HW88.out.cell 18 rfl).2
      have s20:=((HW88.out.set 18 (.slice (some ⟨w16.heap.size,0,none⟩) 1 1)).cell 20 rfl).1
      have z20:=((HW88.out.set 18 (.slice (some ⟨w16.heap.size,0,none⟩) 1 1)).cell 20 rfl).2
      have s19:=(((HW88.out.set 18 (.slice (some ⟨w16.heap.size,0,none⟩) 1 1)).set 20 (.string ⟨#[113]⟩)).cell 19 rfl).1
      have z19:=(((HW88.out.set 18 (.slice (some ⟨w16.heap.size,0,none⟩) 1 1)).set 20 (.string ⟨#[113]⟩)).cell 19 rfl).2
      have s1:=((((HW88.out.set 18 (.slice (some ⟨w16.heap.size,0,none⟩) 1 1)).set 20 (.string ⟨#[113]⟩)).set 19 (.bool true)).cell 1 rfl).1
      have z1:=((((HW88.out.set 18 (.slice (some ⟨w16.heap.size,0,none⟩) 1 1)).set 20 (.string ⟨#[113]⟩)).set 19 (.bool true)).cell 1 rfl).2
      have HWf:Hid (Bc UT (((((w16.alloc (.cells #[.string ⟨#[111,116,104,101,114]⟩] 9)).setCell ⟨WB,18,none⟩ (.slice (some ⟨w16.heap.size,0,none⟩) 1 1)).setCell ⟨WB,20,none⟩ (.string ⟨#[113]⟩)).setCell ⟨WB,19,none⟩ (.bool true)).setCell ⟨WB,1,none⟩ (.string ⟨#[115,111,109,101,98,111,100,121]⟩)) WB (urlC ({ u with path:=[[111,116,104,101,114]],qry:=[113],hasQ:=true,usr:=[115,111,109,101,98,111,100,121] }) (.slice (some ⟨w16.heap.size,0,none⟩) 1 1))):=hid ((((HW88.out.set 18 (.slice (some ⟨w16.heap.size,0,none⟩) 1 1)).set 20 (.string ⟨#[113]⟩)).set 19 (.bool true)).set 1 (.string ⟨#[115,111,109,101,98,111,100,121]⟩))
      have HUf:Hid (Bc UT (((((w16.alloc (.cells #[.string ⟨#[111,116,104,101,114]⟩] 9)).setCell ⟨WB,18,none⟩ (.slice (some ⟨w16.heap.size,0,none⟩) 1 1)).setCell ⟨WB,20,none⟩ (.string ⟨#[113]⟩)).setCell ⟨WB,19,none⟩ (.bool true)).setCell ⟨WB,1,none⟩ (.string ⟨#[115,111,109,101,98,111,100,121]⟩)) U1 (urlC u pu)):=by
       have h:=LU.out
       exact hid ((((HU84.out.kept (heap_setCell_other _ _ _ _ (by show _≠WB;omega))).kept (heap_setCell_other _ _ _ _ (by show _≠WB;omega))).kept (heap_setCell_other _ _ _ _ (by show _≠WB;omega))).kept (heap_setCell_other _ _ _ _ (by show _≠WB;omega)))
      have HAf:Hid (Bc OT (((((w16.alloc (.cells #[.string ⟨#[111,116,104,101,114]⟩] 9)).setCell ⟨WB,18,none⟩ (.slice (some ⟨w16.heap.size,0,none⟩) 1 1)).setCell ⟨WB,20,none⟩ (.string ⟨#[113]⟩)).setCell ⟨WB,19,none⟩ (.bool true)).setCell ⟨WB,1,none⟩ (.string ⟨#[115,111,109,101,98,111,100,121]⟩)) O1 (orgC o)):=by
       have h:=LU.out
       exact hid ((((HA85.out.kept (heap_setCell_other _ _ _ _ (by show _≠WB;omega))).kept (heap_setCell_other _ _ _ _ (by show _≠WB;omega))).kept (heap_setCell_other _ _ _ _ (by show _≠WB;omega))).kept (heap_setCell_other _ _ _ _ (by show _≠WB;omega)))
      have HBo:Hid (Bc OT (((((w16.alloc (.cells #[.string ⟨#[111,116,104,101,114]⟩] 9)).setCell ⟨WB,18,none⟩ (.slice (some ⟨w16.heap.size,0,none⟩) 1 1)).setCell ⟨WB,20,none⟩ (.string ⟨#[113]⟩)).setCell ⟨WB,19,none⟩ (.bool true)).setCell ⟨WB,1,none⟩ (.string ⟨#[115,111,109,101,98,111,100,121]⟩)) O2 (orgC p)):=by
       have h:=LU.out
       exact hid ((((HB86.out.kept (heap_setCell_other _ _ _ _ (by show _≠WB;omega))).kept (heap_setCell_other _ _ _ _ (by show _≠WB;omega))).kept (heap_setCell_other _ _ _ _ (by show _≠WB;omega))).kept (heap_setCell_other _ _ _ _ (by show _≠WB;omega)))
      have HMf:Hid (MpAt (((((w16.alloc (.cells #[.string ⟨#[111,116,104,101,114]⟩] 9)).setCell ⟨WB,18,none⟩ (.slice (some ⟨w16.heap.size,0,none⟩) 1 1)).setCell ⟨WB,20,none⟩ (.string ⟨#[113]⟩)).setCell ⟨WB,19,none⟩ (.bool true)).setCell ⟨WB,1,none⟩ (.string ⟨#[115,111,109,101,98,111,100,121]⟩)) M #[⟨orgV o,.int .i64 3,0⟩] 1):=by
       have h:=LU.out
       have e:∀(v:World) (i:Nat) (x:Value),MpAt v M #[⟨orgV o,.int .i64 3,0⟩] 1→MpAt (v.setCell ⟨WB,i,none⟩ x) M #[⟨orgV o,.int .i64 3,0⟩] 1:=fun v i x h2=>(heap_setCell_other v _ _ _ (by show _≠WB;omega)).trans h2
       exact hid (e _ _ _ (e _ _ _ (e _ _ _ (e _ _ _ HM87.out))))
      have HBf:Hid (Below w.heap.size w (((((w16.alloc (.cells #[.string ⟨#[111,116,104,101,114]⟩] 9)).setCell ⟨WB,18,none⟩ (.slice (some ⟨w16.heap.size,0,none⟩) 1 1)).setCell ⟨WB,20,none⟩ (.string ⟨#[113]⟩)).setCell ⟨WB,19,none⟩ (.bool true)).setCell ⟨WB,1,none⟩ (.string ⟨#[115,111,109,101,98,111,100,121]⟩))):=hid ((((HB89.out.setCell (p:=⟨WB,18,none⟩) LW.out _).setCell (p:=⟨WB,20,none⟩) LW.out _).setCell (p:=⟨WB,19,none⟩) LW.out _).setCell (p:=⟨WB,1,none⟩) LW.out _)
      clear HU84 HA85 HB86 HW88 HM87 HB89
      go_upto_region 15 with fail
      try clear s18
      try clear z18
      try clear s20
      try clear z20
      try clear s19
      try clear z19
      try clear s1
      try clear z1
      generalize (((((w16.alloc (.cells #[.string ⟨#[111,116,104,101,114]⟩] 9)).setCell ⟨WB,18,none⟩ (.slice (some ⟨w16.heap.size,0,none⟩) 1 1)).setCell ⟨WB,20,none⟩ (.string ⟨#[113]⟩)).setCell ⟨WB,19,none⟩ (.bool true)).setCell ⟨WB,1,none⟩ (.string ⟨#[115,111,109,101,98,111,100,121]⟩))=w17 at *
      generalize w16.heap.size=PB at *
      go_wp2_with (refine wpList_load_mid rfl 29 _ rfl WB 0 rfl (urlC ({ u with path:=[[111,116,104,101,114]],qry:=[113],hasQ:=true,usr:=[115,111,109,101,98,111,100,121] }) (.slice (some ⟨PB,0,none⟩) 1 1)) _ (url_range HWf.out) Tryz.underlying29 rfl info_url ?_)
      refine (HOW.out (.slice (some ⟨PB,0,none⟩) 1 1) _).mono ?_
      rintro e w18 ⟨rfl,hb18⟩
      have HU90:=hid (HUf.out.below (hb18))
      have HA91:=hid (HAf.out.below (hb18))
      have HB92:=hid (HBo.out.below (hb18))
      have HW93:=hid (HWf.out.below (hb18))
      have HM94:=hid (HMf.out.below (hb18))
      have HB95:=hid (HBf.out.trans ((hb18).mono HBf.out.size))
      clear HUf HAf HBo HWf HMf HBf
      clear hb18
      have HNn:=hid (new_org w18 o)
      have HU96:=hid (HU90.out.below (HNn.out.2))
      have HA97:=hid (HA91.out.below (HNn.out.2))
      have HB98:=hid (HB92.out.below (HNn.out.2))
      have HW99:=hid (HW93.out.below (HNn.out.2))
      have HM100:=hid (HM94.out.below (HNn.out.2))
      have HB101:=hid (HB95.out.trans ((HNn.out.2).mono HB95.out.size))
      clear HU90 HA91 HB92 HW93 HM94 HB95
      have HX102:=hid HNn.out.1
      clear HNn
      go_upto_region 16 with (refine wpList_store_mid rfl 35 _ _ rfl w18.heap.size 0 (orgC o).toArray rfl rfl (new_there _) info_org (org_one _) ?_;try simp only [List.toList_toArray];generalize (w18.alloc (.cells #[.string ⟨#[]⟩,.int .i64 0,.string ⟨#[]⟩,.int .u32 0,.int .u16 0,.int .u16 0,.int .u16 0,.int .u16 0,.int .u16 0,.int .u16 0,.int .u16 0,.int .u16 0,.int .i64 0] OT)).setCells w18.heap.size 0 (orgC o)=w19 at *;generalize w18.heap.size=O5 at *)
      have HS0:Hid (SsAt w19 U1 WB O1 O2 O5 M u ({ u with path:=[[111,116,104,101,114]],qry:=[113],hasQ:=true,usr:=[115,111,109,101,98,111,100,121] }) pu (.slice (some ⟨PB,0,none⟩) 1 1) o p):=hid ⟨HU96.out,HW99.out,HA97.out,HB98.out,HX102.out,HM100.out⟩
      have HSd:=hid (HS0.out.below ((Below.refl w19.heap.size w19).drew))
      have HBd:=hid (HB101.out.drew)
      clear HS0 HU96 HA97 HB98 HW99 HM100 HX102 HB101
      obtain ⟨tt,htt⟩:∃tt,sameO o p=tt:=⟨_,rfl⟩
      obtain ⟨kk,hkk⟩:∃kk:Int,(if tt=true then (3:Int) else 0)=kk:=⟨_,rfl⟩
      have hlk:∀w,SsAt w U1 WB O1 O2 O5 M u ({ u with path:=[[111,116,104,101,114]],qry:=[113],hasQ:=true,usr:=[115,111,109,101,98,111,100,121] }) pu (.slice (some ⟨PB,0,none⟩) 1 1) o p→(Instr.lookup MpT (.map (some M)) (.agg (orgC p).toArray) false).run Tryz.prog w=.ok (.int .i64 kk) w:=fun w h=>by have:=look_oneO h.2.2.2.2.2 p;rw [HEQ.out,htt,hkk] at this;exact this
      have hqa:∀w,(Op.equalIn 10000 OT (.agg (orgC o).toArray) (.agg (orgC p).toArray)).run Tryz.prog w=.ok tt w:=fun w=>by rw [eq_orgC,htt]
      have hqs:∀w,(Op.equalIn 10000 OT (.agg (orgC o).toArray) (.agg (orgC o).toArray)).run Tryz.prog w=.ok true w:=fun w=>by rw [eq_orgC,sameO_self]
      have h9:(kk==3)=tt:=by rw [← hkk];exact three_eq tt
      clear htt hkk
      have hqa2:∀w,(Op.equal OT (.agg (orgC o).toArray) (.agg (orgC p).toArray)).run Tryz.prog w=.ok tt w:=hqa
      have hqs2:∀w,(Op.equal OT (.agg (orgC o).toArray) (.agg (orgC o).toArray)).run Tryz.prog w=.ok true w:=hqs
      have HQA2:=hid hqa2
      have HQS2:=hid hqs2
      clear hqa2 hqs2
      have HLK:=hid hlk
      have HQA:=hid hqa
      have HQS:=hid hqs
      have H9:=hid h9
      clear hlk hqa hqs h9
      refine wp_region_held_drew (S:=fun w'=>SsAt w' U1 WB O1 O2 O5 M u ({ u with path:=[[111,116,104,101,114]],qry:=[113],hasQ:=true,usr:=[115,111,109,101,98,111,100,121] }) pu (.slice (some ⟨PB,0,none⟩) 1 1) o p) (by kernel_rfl) ?_ (fun hHeld=>?_)
      ·exact HSd.out
      refine wpAnyH_ready (rs:=[0]) (by kernel_rfl) (by simp) ?_
      refine' AllReadyH.cons (by simp only [List.getElem?_toArray,List.getElem?_cons_succ,List.getElem?_cons_zero];rfl) (fun K hK=>?_) AllReadyH.nil
      go_simp
      refine (HFst.out _ HBd.out).mono ?_
      rintro e wa ⟨rfl,hb⟩
      have HSe:=hid (HSd.out.below hb)
      have HBe:=hid (HBd.out.trans (hb.mono HBd.out.size))
      clear hb HSd HBd
      have HSd:=hid HSe.out
      have HBd:=hid HBe.out
      clear HSe HBe
      go_wp2_with fail
      refine hK.out _ _ ?_ (fun hHeld=>?_)
      ·exact HSd.out
      clear hK K
      try simp only [Act.put,List.setIfInBounds_toArray,List.set_cons_zero,List.set_cons_succ]
      refine' wpAnyH_take (i:=1) (v:=?_) (by simp only [List.getElem?_toArray,List.getElem?_cons_succ,List.getElem?_cons_zero];rfl) (by kernel_rfl) (by kernel_rfl) (by kernel_rfl) (by intro _ _ _ h;exact h) (Or.inl ⟨by rfl,?hy2x1⟩) hHeld ?rs2x1
      case hy2x1=>(intro w hSw;clear hSw;go_simp;try with_reducible rfl)
      try simp only [Act.put,List.setIfInBounds_toArray,List.set_cons_zero,List.set_cons_succ]
      refine' wpAnyH_take (i:=2) (v:=?_) (by simp only [List.getElem?_toArray,List.getElem?_cons_succ,List.getElem?_cons_zero];rfl) (by kernel_rfl) (by kernel_rfl) (by kernel_rfl) (by intro _ _ _ h;exact h) (Or.inl ⟨by rfl,?hy2x2⟩) hHeld ?rs2x2
      case hy2x2=>(intro w hSw;clear hSw;go_simp;try with_reducible rfl)
      try simp only [Act.put,List.setIfInBounds_toArray,List.set_cons_zero,List.set_cons_succ]
      refine' wpAnyH_take (i:=3) (v:=_) (by simp only [List.getElem?_toArray,List.getElem?_cons_succ,List.getElem?_cons_zero];rfl) (by kernel_rfl) (by kernel_rfl) (by kernel_rfl) (by intro _ _ _ h;exact h) (yieldsIf_load_mid (by rfl) 35 _ rfl O2 0 rfl (orgC p) _ (fun w h=>org_range h.2.2.2.1) Tryz.underlying35 rfl info_org) hHeld ?rs2x3
      try simp only [Act.put,List.setIfInBounds_toArray,List.set_cons_zero,List.set_cons_succ]
      refine' wpAnyH_take (i:=4) (v:=?_) (by simp only [List.getElem?_toArray,List.getElem?_cons_succ,List.getElem?_cons_zero];rfl) (by kernel_rfl) (by kernel_rfl) (by kernel_rfl) (by intro _ _ _ h;exact h) (Or.inl ⟨by rfl,?hy2x4⟩) hHeld ?rs2x4
      case hy2x4=>(intro w hSw;have hl:=HLK.out w hSw;clear hSw;go_simp;try with_reducible rfl)
      try simp only [Act.put,List.setIfInBounds_toArray,List.set_cons_zero,List.set_cons_succ]
      refine' wpAnyH_take (i:=5) (v:=.bool tt) (by simp only [List.getElem?_toArray,List.getElem?_cons_succ,List.getElem?_cons_zero];rfl) (by kernel_rfl) (by kernel_rfl) (by kernel_rfl) (by intro _ _ _ h;exact h) (Or.inl ⟨by rfl,?hy2x5⟩) hHeld ?rs2x5
      case hy2x5=>(intro w hSw;have hl:=H9.out;clear hSw;go_simp;try (first | rfl | simp [hl]))
      try simp only [Act.put,List.setIfInBounds_toArray,List.set_cons_zero,List.set_cons_succ]
      refine' wpAnyH_take (i:=6) (v:=_) (by simp only [List.getElem?_toArray,List.getElem?_cons_succ,List.getElem?_cons_zero];rfl) (by kernel_rfl) (by kernel_rfl) (by kernel_rfl) (by intro _ _ _ h;exact h) (yieldsIf_load_mid (by rfl) 35 _ rfl O1 0 rfl (orgC o) _ (fun w h=>org_range h.2.2.1) Tryz.underlying35 rfl info_org) hHeld ?rs2x6
      try simp only [Act.put,List.setIfInBounds_toArray,List.set_cons_zero,List.set_cons_succ]
      refine' wpAnyH_take (i:=7) (v:=_) (by simp only [List.getElem?_toArray,List.getElem?_cons_succ,List.getElem?_cons_zero];rfl) (by kernel_rfl) (by kernel_rfl) (by kernel_rfl) (by intro _ _ _ h;exact h) (yieldsIf_load_mid (by rfl) 35 _ rfl O2 0 rfl (orgC p) _ (fun w h=>org_range h.2.2.2.1) Tryz.underlying35 rfl info_org) hHeld ?rs2x7
      try simp only [Act.put,List.setIfInBounds_toArray,List.set_cons_zero,List.set_cons_succ]
      refine' wpAnyH_take (i:=8) (v:=?_) (by simp only [List.getElem?_toArray,List.getElem?_cons_succ,List.getElem?_cons_zero];rfl) (by kernel_rfl) (by kernel_rfl) (by kernel_rfl) (by intro _ _ _ h;exact h) (Or.inl ⟨by rfl,?hy2x8⟩) hHeld ?rs2x8
      case hy2x8=>(intro w hSw;clear hSw;have hl:=HQA.out;have hl2:=HQA2.out;go_simp;try with_reducible rfl)
      try simp only [Act.put,List.setIfInBounds_toArray,List.set_cons_zero,List.set_cons_succ]
      refine' wpAnyH_take (i:=9) (v:=.bool true) (by simp only [List.getElem?_toArray,List.getElem?_cons_succ,List.getElem?_cons_zero];rfl) (by kernel_rfl) (by kernel_rfl) (by kernel_rfl) (by intro _ _ _ h;exact h) (Or.inl ⟨by rfl,?hy2x9⟩) hHeld ?rs2x9
      case hy2x9=>(intro w hSw;have hl:=H9.out;clear hSw;go_simp;try (first | rfl | simp [hl]))
      try simp only [Act.put,List.setIfInBounds_toArray,List.set_cons_zero,List.set_cons_succ]
      refine' wpAnyH_take (i:=10) (v:=?_) (by simp only [List.getElem?_toArray,List.getElem?_cons_succ,List.getElem?_cons_zero];rfl) (by kernel_rfl) (by kernel_rfl) (by kernel_rfl) (by intro _ _ _ h;exact h) (Or.inl ⟨by rfl,?hy2x10⟩) hHeld ?rs2x10
      case hy2x10=>(intro w hSw;clear hSw;go_simp;try with_reducible rfl)
      try simp only [Act.put,List.setIfInBounds_toArray,List.set_cons_zero,List.set_cons_succ]
      refine' wpAnyH_take (i:=11) (v:=?_) (by simp only [List.getElem?_toArray,List.getElem?_cons_succ,List.getElem?_cons_zero];rfl) (by kernel_rfl) (by kernel_rfl) (by kernel_rfl) (by intro _ _ _ h;exact h) (Or.inl ⟨by rfl,?hy2x11⟩) hHeld ?rs2x11
      case hy2x11=>(intro w hSw;clear hSw;go_simp;try with_reducible rfl)
      try simp only [Act.put,List.setIfInBounds_toArray,List.set_cons_zero,List.set_cons_succ]
      refine' wpAnyH_take (i:=12) (v:=_) (by simp only [List.getElem?_toArray,List.getElem?_cons_succ,List.getElem?_cons_zero];rfl) (by kernel_rfl) (by kernel_rfl) (by kernel_rfl) (by intro _ _ _ h;exact h) (yieldsIf_load_mid (by rfl) 35 _ rfl O5 0 rfl (orgC o) _ (fun w h=>org_range h.2.2.2.2.1) Tryz.underlying35 rfl info_org) hHeld ?rs2x12
      try simp only [Act.put,List.setIfInBounds_toArray,List.set_cons_zero,List.set_cons_succ]
      refine' wpAnyH_take (i:=13) (v:=_) (by simp only [List.getElem?_toArray,List.getElem?_cons_succ,List.getElem?_cons_zero];rfl) (by kernel_rfl) (by kernel_rfl) (by kernel_rfl) (by intro _ _ _ h;exact h) (yieldsIf_load_mid (by rfl) 35 _ rfl O1 0 rfl (orgC o) _ (fun w h=>org_range h.2.2.1) Tryz.underlying35 rfl info_org) hHeld ?rs2x13
      try simp only [Act.put,List.setIfInBounds_toArray,List.set_cons_zero,List.set_cons_succ]
      refine' wpAnyH_take (i:=14) (v:=?_) (by simp only [List.getElem?_toArray,List.getElem?_cons_succ,List.getElem?_cons_zero];rfl) (by kernel_rfl) (by kernel_rfl) (by kernel_rfl) (by intro _ _ _ h;exact h) (Or.inl ⟨by rfl,?hy2x14⟩) hHeld ?rs2x14
      case hy2x14=>(intro w hSw;clear hSw;have hl:=HQS.out;have hl2:=HQS2.out;go_simp;try with_reducible rfl)
      try simp only [Act.put,List.setIfInBounds_toArray,List.set_cons_zero,List.set_cons_succ]
      refine' wpAnyH_take (i:=15) (v:=?_) (by simp only [List.getElem?_toArray,List.getElem?_cons_succ,List.getElem?_cons_zero];rfl) (by kernel_rfl) (by kernel_rfl) (by kernel_rfl) (by intro _ _ _ h;exact h) (Or.inl ⟨by rfl,?hy2x15⟩) hHeld ?rs2x15
      case hy2x15=>(intro w hSw;clear hSw;go_simp;try with_reducible rfl)
      try simp only [Act.put,List.setIfInBounds_toArray,List.set_cons_zero,List.set_cons_succ]
      refine' wpAnyH_take (i:=16) (v:=?_) (by simp only [List.getElem?_toArray,List.getElem?_cons_succ,List.getElem?_cons_zero];rfl) (by kernel_rfl) (by kernel_rfl) (by kernel_rfl) (by intro _ _ _ h;exact h) (Or.inl ⟨by rfl,?hy2x16⟩) hHeld ?rs2x16
      case hy2x16=>(intro w hSw;clear hSw;go_simp;try with_reducible rfl)
      try simp only [Act.put,List.setIfInBounds_toArray,List.set_cons_zero,List.set_cons_succ]
      refine' wpAnyH_take (i:=17) (v:=?_) (by simp only [List.getElem?_toArray,List.getElem?_cons_succ,List.getElem?_cons_zero];rfl) (by kernel_rfl) (by kernel_rfl) (by kernel_rfl) (by intro _ _ _ h;exact h) (Or.inl ⟨by rfl,?hy2x17⟩) hHeld ?rs2x17
      case hy2x17=>(intro w hSw;clear hSw;go_simp;try with_reducible rfl)
      try simp only [Act.put,List.setIfInBounds_toArray,List.set_cons_zero,List.set_cons_succ]
      refine' wpAnyH_take (i:=18) (v:=?_) (by simp only [List.getElem?_toArray,List.getElem?_cons_succ,List.getElem?_cons_zero];rfl) (by kernel_rfl) (by kernel_rfl) (by kernel_rfl) (by intro _ _ _ h;exact h) (Or.inl ⟨by rfl,?hy2x18⟩) hHeld ?rs2x18
      case hy2x18=>(intro w hSw;clear hSw;go_simp;try with_reducible rfl)
      try simp only [Act.put,List.setIfInBounds_toArray,List.set_cons_zero,List.set_cons_succ]
      refine' wpAnyH_take (i:=19) (v:=?_) (by simp only [List.getElem?_toArray,List.getElem?_cons_succ,List.getElem?_cons_zero];rfl) (by kernel_rfl) (by kernel_rfl) (by kernel_rfl) (by intro _ _ _ h;exact h) (Or.inl ⟨by rfl,?hy2x19⟩) hHeld ?rs2x19
      case hy2x19=>(intro w hSw;clear hSw;go_simp;try with_reducible rfl)
      try simp only [Act.put,List.setIfInBounds_toArray,List.set_cons_zero,List.set_cons_succ]
      refine' wpAnyH_take (i:=20) (v:=?_) (by simp only [List.getElem?_toArray,List.getElem?_cons_succ,List.getElem?_cons_zero];rfl) (by kernel_rfl) (by kernel_rfl) (by kernel_rfl) (by intro _ _ _ h;exact h) (Or.inl ⟨by rfl,?hy2x20⟩) hHeld ?rs2x20
      case hy2x20=>(intro w hSw;clear hSw;go_simp;try with_reducible rfl)
      try simp only [Act.put,List.setIfInBounds_toArray,List.set_cons_zero,List.set_cons_succ]
      refine' wpAnyH_take (i:=21) (v:=?_) (by simp only [List.getElem?_toArray,List.getElem?_cons_succ,List.getElem?_cons_zero];rfl) (by kernel_rfl) (by kernel_rfl) (by kernel_rfl) (by intro _ _ _ h;exact h) (Or.inl ⟨by rfl,?hy2x21⟩) hHeld ?rs2x21
      case hy2x21=>(intro w hSw;clear hSw;go_simp;try with_reducible rfl)
      try simp only [Act.put,List.setIfInBounds_toArray,List.set_cons_zero,List.set_cons_succ]
      refine' wpAnyH_take (i:=22) (v:=?_) (by simp only [List.getElem?_toArray,List.getElem?_cons_succ,List.getElem?_cons_zero];rfl) (by kernel_rfl) (by kernel_rfl) (by kernel_rfl) (by intro _ _ _ h;exact h) (Or.inl ⟨by rfl,?hy2x22⟩) hHeld ?rs2x22
      case hy2x22=>(intro w hSw;clear hSw;go_simp;try with_reducible rfl)
      try simp only [Act.put,List.setIfInBounds_toArray,List.set_cons_zero,List.set_cons_succ]
      refine' wpAnyH_take (i:=23) (v:=?_) (by simp only [List.getElem?_toArray,List.getElem?_cons_succ,List.getElem?_cons_zero];rfl) (by kernel_rfl) (by kernel_rfl) (by kernel_rfl) (by intro _ _ _ h;exact h) (Or.inl ⟨by rfl,?hy2x23⟩) hHeld ?rs2x23
      case hy2x23=>(intro w hSw;clear hSw;go_simp;try with_reducible rfl)
      try simp only [Act.put,List.setIfInBounds_toArray,List.set_cons_zero,List.set_cons_succ]
      refine' wpAnyH_take (i:=24) (v:=?_) (by simp only [List.getElem?_toArray,List.getElem?_cons_succ,List.getElem?_cons_zero];rfl) (by kernel_rfl) (by kernel_rfl) (by kernel_rfl) (by intro _ _ _ h;exact h) (Or.inl ⟨by rfl,?hy2x24⟩) hHeld ?rs2x24
      case hy2x24=>(intro w hSw;clear hSw;go_simp;try with_reducible rfl)
      try simp only [Act.put,List.setIfInBounds_toArray,List.set_cons_zero,List.set_cons_succ]
      refine' wpAnyH_take (i:=25) (v:=_) (by simp only [List.getElem?_toArray,List.getElem?_cons_succ,List.getElem?_cons_zero];rfl) (by kernel_rfl) (by kernel_rfl) (by kernel_rfl) (by intro _ _ _ h;exact h) (yieldsIf_load_mid (by rfl) 29 _ rfl U1 0 rfl (urlC u pu) _ (fun w h=>url_range h.1) Tryz.underlying29 rfl info_url) hHeld ?rs2x25
      try simp only [Act.put,List.setIfInBounds_toArray,List.set_cons_zero,List.set_cons_succ]
      refine' wpAnyH_take (i:=26) (v:=_) (by simp only [List.getElem?_toArray,List.getElem?_cons_succ,List.getElem?_cons_zero];rfl) (by kernel_rfl) (by kernel_rfl) (by kernel_rfl) (by intro _ _ _ h;exact h) (yieldsIf_load_mid (by rfl) 29 _ rfl WB 0 rfl (urlC ({ u with path:=[[111,116,104,101,114]],qry:=[113],hasQ:=true,usr:=[115,111,109,101,98,111,100,121] }) (.slice (some ⟨PB,0,none⟩) 1 1)) _ (fun w h=>url_range h.2.1) Tryz.underlying29 rfl info_url) hHeld ?rs2x26
      try simp only [Act.put,List.setIfInBounds_toArray,List.set_cons_zero,List.set_cons_succ]
      refine wpAnyH_ready (rs:=[27]) (by kernel_rfl) (by simp) ?_
      refine' AllReadyH.cons (by simp only [List.getElem?_toArray,List.getElem?_cons_succ,List.getElem?_cons_zero];rfl) (fun K hK=>?_) AllReadyH.nil
      go_simp
      refine (HSW.out (.slice (some ⟨PB,0,none⟩) 1 1) _ rfl).mono ?_
      rintro e wb ⟨rfl,hb⟩
      have HSe:=hid (HSd.out.below hb)
      have HBe:=hid (HBd.out.trans (hb.mono HBd.out.size))
      clear hb HSd HBd
      have HSd:=hid HSe.out
      have HBd:=hid HBe.out
      clear HSe HBe
      go_wp2_with fail
      refine hK.out _ _ ?_ (fun hHeld=>?_)
      ·exact HSd.out
      clear hK K
      try simp only [Act.put,List.setIfInBounds_toArray,List.set_cons_zero,List.set_cons_succ]
      refine' wpAnyH_take (i:=28) (v:=?_) (by simp only [List.getElem?_toArray,List.getElem?_cons_succ,List.getElem?_cons_zero];rfl) (by kernel_rfl) (by kernel_rfl) (by kernel_rfl) (by intro _ _ _ h;exact h) (Or.inl ⟨by rfl,?hy2x28⟩) hHeld ?rs2x28
      case hy2x28=>(intro w hSw;clear hSw;go_simp;try with_reducible rfl)
      try simp only [Act.put,List.setIfInBounds_toArray,List.set_cons_zero,List.set_cons_succ]
      refine' wpAnyH_take (i:=29) (v:=?_) (by simp only [List.getElem?_toArray,List.getElem?_cons_succ,List.getElem?_cons_zero];rfl) (by kernel_rfl) (by kernel_rfl) (by kernel_rfl) (by intro _ _ _ h;exact h) (Or.inl ⟨by rfl,?hy2x29⟩) hHeld ?rs2x29
      case hy2x29=>(intro w hSw;clear hSw;go_simp;try with_reducible rfl)
      try simp only [Act.put,List.setIfInBounds_toArray,List.set_cons_zero,List.set_cons_succ]
      refine wpAnyH_ready (rs:=[30]) (by kernel_rfl) (by simp) ?_
      refine' AllReadyH.cons (by simp only [List.getElem?_toArray,List.getElem?_cons_succ,List.getElem?_cons_zero];rfl) (fun K hK=>?_) AllReadyH.nil
      go_simp
      all_goals
       refine hK.out _ _ ?_ (fun hHeld=>?_)
       ·exact HSd.out
       clear hK K
       try simp only [Act.put,List.setIfInBounds_toArray,List.set_cons_zero,List.set_cons_succ]
       refine wpAnyH_done (by kernel_rfl) ?_ _
       go_wp2_with fail
       all_goals
        go_ret
        exact ⟨by first | rfl | (simp;done) | (simp [sameO_self];done) | simp_all,HBd.out⟩
     ·cases ht:sameO o p
      ·rw [ht] at HS12 HS21
       have HTF:Hid (sameO o p=false):=hid ht
       clear ht
       have HT12:Hid (∀w,Calls Tryz.prog 18 #[.agg (urlC u pu).toArray,.agg (urlC v pv).toArray] w fun e w2=>e=.returned (.bool false)∧Below w.heap.size w w2):=HS12
       have HT21:Hid (∀w,Calls Tryz.prog 18 #[.agg (urlC v pv).toArray,.agg (urlC u pu).toArray] w fun e w2=>e=.returned (.bool false)∧Below w.heap.size w w2):=HS21
       clear HS12 HS21
       have hq1:=fun w=>eq_orgC o p w
       have hq2:=fun w=>eqx_orgC o p w
       rw [HTF.out] at hq1 hq2
       go_upto_region 10 with (first | refine load_onU (by rfl) 35 _ rfl O1 0 rfl (orgC o) _ (org_range HA55.out) Tryz.underlying35 rfl info_org ?_ | refine load_onU (by rfl) 35 _ rfl O2 0 rfl (orgC p) _ (org_range HB56.out) Tryz.underlying35 rfl info_org ?_)
       have HQ1:=hid hq1
       have HQ2:=hid hq2
       clear hq1 hq2
       go_wp2_with (first | refine wpList_load_mid rfl 29 _ rfl U1 0 rfl (urlC u pu) _ (url_range HU53.out) Tryz.underlying29 rfl info_url ?_ | refine wpList_load_mid rfl 29 _ rfl U2 0 rfl (urlC v pv) _ (url_range HV54.out) Tryz.underlying29 rfl info_url ?_)
       refine (HT12.out _).mono ?_
       rintro e w13 ⟨rfl,hb13⟩
       have HU60:=hid (HU53.out.below (hb13))
       have HV61:=hid (HV54.out.below (hb13))
       have HA62:=hid (HA55.out.below (hb13))
       have HB63:=hid (HB56.out.below (hb13))
       have HC64:=hid (HC57.out.below (hb13))
       have HD65:=hid (HD59.out.below (hb13))
       have HB66:=hid (HB58.out.trans ((hb13).mono HB58.out.size))
       clear HU53 HV54 HA55 HB56 HC57 HD59 HB58
       clear hb13
       go_wp2_with (first | refine load_onU (by rfl) 29 _ rfl U2 0 rfl (urlC v pv) _ (url_range HV61.out) Tryz.underlying29 rfl info_url ?_ | refine load_onU (by rfl) 29 _ rfl U1 0 rfl (urlC u pu) _ (url_range HU60.out) Tryz.underlying29 rfl info_url ?_)
       refine (HT21.out _).mono ?_
       rintro e w14 ⟨rfl,hb14⟩
       have HU67:=hid (HU60.out.below (hb14))
       have HV68:=hid (HV61.out.below (hb14))
       have HA69:=hid (HA62.out.below (hb14))
       have HB70:=hid (HB63.out.below (hb14))
       have HC71:=hid (HC64.out.below (hb14))
       have HD72:=hid (HD65.out.below (hb14))
       have HB73:=hid (HB66.out.trans ((hb14).mono HB66.out.size))
       clear HU60 HV61 HA62 HB63 HC64 HD65 HB66
       clear hb14
       clear HT12 HT21
       go_upto_region 12 with (first | refine load_onU (by rfl) 35 _ rfl O3 0 rfl (orgC c) _ (org_range HC71.out) Tryz.underlying35 rfl info_org ?_ | refine load_onU (by rfl) 35 _ rfl O4 0 rfl (orgC d) _ (org_range HD72.out) Tryz.underlying35 rfl info_org ?_ | fail)
       have hmm:=@run_makeMap Tryz.prog
       have hpn:(Instr.mapUpdate MpT (.map (some w14.heap.size)) (.agg (orgC o).toArray) (.int .i64 3)).run Tryz.prog (w14.alloc (.map #[] 0))=.ok () (putObjH (w14.alloc (.map #[] 0)) w14.heap.size (.map #[⟨orgV o,.int .i64 3,0⟩] 1)):=put_newO (heap_alloc_new w14 (.map #[] 0)) o (.int .i64 3)
       have HMn:Hid (MpAt (putObjH (w14.alloc (.map #[] 0)) w14.heap.size (.map #[⟨orgV o,.int .i64 3,0⟩] 1)) w14.heap.size #[⟨orgV o,.int .i64 3,0⟩] 1):=hid (MpAt.put (w:=w14.alloc (.map #[] 0)) (heap_alloc_new w14 (.map #[] 0)))
       have hbn:Below w14.heap.size w14 (putObjH (w14.alloc (.map #[] 0)) w14.heap.size (.map #[⟨orgV o,.int .i64 3,0⟩] 1)):=putO_below (ballC w14 _) (Nat.le_refl _) _
       have HAl:=hid (HA69.out.below (ballC w14 (.map #[] 0)))
       have HU74:=hid (HU67.out.below (hbn))
       have HA75:=hid (HA69.out.below (hbn))
       have HB76:=hid (HB70.out.below (hbn))
       have HB77:=hid (HB73.out.trans ((hbn).mono HB73.out.size))
       clear HU67 HA69 HB70 HB73
       clear hbn
       go_upto_region 13 with (refine wpList_load_mid rfl 35 _ rfl O1 0 rfl (orgC o) _ (org_range HAl.out) Tryz.underlying35 rfl info_org ?_)
       generalize (putObjH (w14.alloc (.map #[] 0)) w14.heap.size (.map #[⟨orgV o,.int .i64 3,0⟩] 1))=w15 at *
       generalize w14.heap.size=M at *
       clear hmm hpn HAl
       have lU:U1 < w15.heap.size:=HU74.out.lt
       have lA:O1 < w15.heap.size:=HA75.out.lt
       have lB:O2 < w15.heap.size:=HB76.out.lt
       have lM:M < w15.heap.size:=mp_lt HMn.out
       have LU:Hid (U1 < w15.heap.size∧O1 < w15.heap.size∧O2 < w15.heap.size∧M < w15.heap.size):=hid ⟨lU,lA,lB,lM⟩
       clear lU lA lB lM
       have LW:Hid (w.heap.size≤w15.heap.size):=hid HB77.out.size
       have HLd:=hid HU74.out
       have HNn:=hid (new_url w15 u pu)
       have HU78:=hid (HU74.out.below (HNn.out.2))
       have HA79:=hid (HA75.out.below (HNn.out.2))
       have HB80:=hid (HB76.out.below (HNn.out.2))
       have HM81:=hid (HMn.out.below (HNn.out.2))
       have HB82:=hid (HB77.out.trans ((HNn.out.2).mono HB77.out.size))
       clear HU74 HA75 HB76 HMn HB77
       have HW83:=hid HNn.out.1
       clear HNn
       go_upto_region 14 with (first | refine wpList_load_mid rfl 29 _ rfl U1 0 rfl (urlC u pu) _ (url_range HLd.out) Tryz.underlying29 rfl info_url ?_ | (refine wpList_store_mid rfl 29 _ _ rfl w15.heap.size 0 (urlC u pu).toArray rfl rfl (new_urlT _) info_url (url_one u pu HOU.out) ?_;try simp only [List.toList_toArray];generalize (w15.alloc (.cells #[.string ⟨#[]⟩,.string ⟨#[]⟩,.string ⟨#[]⟩,.bool false,.int .i64 0,.string ⟨#[]⟩,.int .u32 0,.int .u16 0,.int .u16 0,.int .u16 0,.int .u16 0,.int .u16 0,.int .u16 0,.int .u16 0,.int .u16 0,.int .i64 0,.bool false,.string ⟨#[]⟩,.slice none 0 0,.bool false,.string ⟨#[]⟩,.bool false,.string ⟨#[]⟩] UT)).setCells w15.heap.size 0 (urlC u pu)=w16 at *;generalize w15.heap.size=WB at *))
       clear HLd
       have hal:Below w16.heap.size w16 (w16.alloc (.cells #[.string ⟨#[111,116,104,101,114]⟩] 9)):=ballC _ _
       have HU84:=hid (HU78.out.below (hal))
       have HA85:=hid (HA79.out.below (hal))
       have HB86:=hid (HB80.out.below (hal))
       have HM87:=hid (HM81.out.below (hal))
       have HW88:=hid (HW83.out.below (hal))
       have HB89:=hid (HB82.out.trans ((hal).mono HB82.out.size))
       clear HU78 HA79 HB80 HM81 HW83 HB82
       clear hal
       have s18:=(HW88.out.cell 18 rfl).1
       have z18:=(HW88.out.cell 18 rfl).2
       have s20:=((HW88.out.set 18 (.slice (some ⟨w16.heap.size,0,none⟩) 1 1)).cell 20 rfl).1
       have z20:=((HW88.out.set 18 (.slice (some ⟨w16.heap.size,0,none⟩) 1 1)).cell 20 rfl).2
       have s19:=(((HW88.out.set 18 (.slice (some ⟨w16.heap.size,0,none⟩) 1 1)).set 20 (.string ⟨#[113]⟩)).cell 19 rfl).1
       have z19:=(((HW88.out.set 18 (.slice (some ⟨w16.heap.size,0,none⟩) 1 1)).set 20 (.string ⟨#[113]⟩)).cell 19 rfl).2
       have s1:=((((HW88.out.set 18 (.slice (some ⟨w16.heap.size,0,none⟩) 1 1)).set 20 (.string ⟨#[113]⟩)).set 19 (.bool true)).cell 1 rfl).1
       have z1:=((((HW88.out.set 18 (.slice (some ⟨w16.heap.size,0,none⟩) 1 1)).set 20 (.string ⟨#[113]⟩)).set 19 (.bool true)).cell 1 rfl).2
       have HWf:Hid (Bc UT (((((w16.alloc (.cells #[.string ⟨#[111,116,104,101,114]⟩] 9)).setCell ⟨WB,18,none⟩ (.slice (some ⟨w16.heap.size,0,none⟩) 1 1)).setCell ⟨WB,20,none⟩ (.string ⟨#[113]⟩)).setCell ⟨WB,19,none⟩ (.bool true)).setCell ⟨WB,1,none⟩ (.string ⟨#[115,111,109,101,98,111,100,121]⟩)) WB (urlC ({ u with path:=[[111,116,104,101,114]],qry:=[113],hasQ:=true,usr:=[115,111,109,101,98,111,100,121] }) (.slice (some ⟨w16.heap.size,0,none⟩) 1 1))):=hid ((((HW88.out.set 18 (.slice (some ⟨w16.heap.size,0,none⟩) 1 1)).set 20 (.string ⟨#[113]⟩)).set 19 (.bool true)).set 1 (.string ⟨#[115,111,109,101,98,111,100,121]⟩))
       have HUf:Hid (Bc UT (((((w16.alloc (.cells #[.string ⟨#[111,116,104,101,114]⟩] 9)).setCell ⟨WB,18,none⟩ (.slice (some ⟨w16.heap.size,0,none⟩) 1 1)).setCell ⟨WB,20,none⟩ (.string ⟨#[113]⟩)).setCell ⟨WB,19,none⟩ (.bool true)).setCell ⟨WB,1,none⟩ (.string ⟨#[115,111,109,101,98,111,100,121]⟩)) U1 (urlC u pu)):=by
        have h:=LU.out
        exact hid ((((HU84.out.kept (heap_setCell_other _ _ _ _ (by show _≠WB;omega))).kept (heap_setCell_other _ _ _ _ (by show _≠WB;omega))).kept (heap_setCell_other _ _ _ _ (by show _≠WB;omega))).kept (heap_setCell_other _ _ _ _ (by show _≠WB;omega)))
       have HAf:Hid (Bc OT (((((w16.alloc (.cells #[.string ⟨#[111,116,104,101,114]⟩] 9)).setCell ⟨WB,18,none⟩ (.slice (some ⟨w16.heap.size,0,none⟩) 1 1)).setCell ⟨WB,20,none⟩ (.string ⟨#[113]⟩)).setCell ⟨WB,19,none⟩ (.bool true)).setCell ⟨WB,1,none⟩ (.string ⟨#[115,111,109,101,98,111,100,121]⟩)) O1 (orgC o)):=by
        have h:=LU.out
        exact hid ((((HA85.out.kept (heap_setCell_other _ _ _ _ (by show _≠WB;omega))).kept (heap_setCell_other _ _ _ _ (by show _≠WB;omega))).kept (heap_setCell_other _ _ _ _ (by show _≠WB;omega))).kept (heap_setCell_other _ _ _ _ (by show _≠WB;omega)))
       have HBo:Hid (Bc OT (((((w16.alloc (.cells #[.string ⟨#[111,116,104,101,114]⟩] 9)).setCell ⟨WB,18,none⟩ (.slice (some ⟨w16.heap.size,0,none⟩) 1 1)).setCell ⟨WB,20,none⟩ (.string ⟨#[113]⟩)).setCell ⟨WB,19,none⟩ (.bool true)).setCell ⟨WB,1,none⟩ (.string ⟨#[115,111,109,101,98,111,100,121]⟩)) O2 (orgC p)):=by
        have h:=LU.out
        exact hid ((((HB86.out.kept (heap_setCell_other _ _ _ _ (by show _≠WB;omega))).kept (heap_setCell_other _ _ _ _ (by show _≠WB;omega))).kept (heap_setCell_other _ _ _ _ (by show _≠WB;omega))).kept (heap_setCell_other _ _ _ _ (by show _≠WB;omega)))
       have HMf:Hid (MpAt (((((w16.alloc (.cells #[.string ⟨#[111,116,104,101,114]⟩] 9)).setCell ⟨WB,18,none⟩ (.slice (some ⟨w16.heap.size,0,none⟩) 1 1)).setCell ⟨WB,20,none⟩ (.string ⟨#[113]⟩)).setCell ⟨WB,19,none⟩ (.bool true)).setCell ⟨WB,1,none⟩ (.string ⟨#[115,111,109,101,98,111,100,121]⟩)) M #[⟨orgV o,.int .i64 3,0⟩] 1):=by
        have h:=LU.out
        have e:∀(v:World) (i:Nat) (x:Value),MpAt v M #[⟨orgV o,.int .i64 3,0⟩] 1→MpAt (v.setCell ⟨WB,i,none⟩ x) M #[⟨orgV o,.int .i64 3,0⟩] 1:=fun v i x h2=>(heap_setCell_other v _ _ _ (by show _≠WB;omega)).trans h2
        exact hid (e _ _ _ (e _ _ _ (e _ _ _ (e _ _ _ HM87.out))))
       have HBf:Hid (Below w.heap.size w (((((w16.alloc (.cells #[.string ⟨#[111,116,104,101,114]⟩] 9)).setCell ⟨WB,18,none⟩ (.slice (some ⟨w16.heap.size,0,none⟩) 1 1)).setCell ⟨WB,20,none⟩ (.string ⟨#[113]⟩)).setCell ⟨WB,19,none⟩ (.bool true)).setCell ⟨WB,1,none⟩ (.string ⟨#[115,111,109,101,98,111,100,121]⟩))):=hid ((((HB89.out.setCell (p:=⟨WB,18,none⟩) LW.out _).setCell (p:=⟨WB,20,none⟩) LW.out _).setCell (p:=⟨WB,19,none⟩) LW.out _).setCell (p:=⟨WB,1,none⟩) LW.out _)
       clear HU84 HA85 HB86 HW88 HM87 HB89
       go_upto_region 15 with fail
       try clear s18
       try clear z18
       try clear s20
       try clear z20
       try clear s19
       try clear z19
       try clear s1
       try clear z1
       generalize (((((w16.alloc (.cells #[.string ⟨#[111,116,104,101,114]⟩] 9)).setCell ⟨WB,18,none⟩ (.slice (some ⟨w16.heap.size,0,none⟩) 1 1)).setCell ⟨WB,20,none⟩ (.string ⟨#[113]⟩)).setCell ⟨WB,19,none⟩ (.bool true)).setCell ⟨WB,1,none⟩ (.string ⟨#[115,111,109,101,98,111,100,121]⟩))=w17 at *
       generalize w16.heap.size=PB at *
       go_wp2_with (refine wpList_load_mid rfl 29 _ rfl WB 0 rfl (urlC ({ u with path:=[[111,116,104,101,114]],qry:=[113],hasQ:=true,usr:=[115,111,109,101,98,111,100,121] }) (.slice (some ⟨PB,0,none⟩) 1 1)) _ (url_range HWf.out) Tryz.underlying29 rfl info_url ?_)
       refine (HOW.out (.slice (some ⟨PB,0,none⟩) 1 1) _).mono ?_
       rintro e w18 ⟨rfl,hb18⟩
       have HU90:=hid (HUf.out.below (hb18))
       have HA91:=hid (HAf.out.below (hb18))
       have HB92:=hid (HBo.out.below (hb18))
       have HW93:=hid (HWf.out.below (hb18))
       have HM94:=hid (HMf.out.below (hb18))
       have HB95:=hid (HBf.out.trans ((hb18).mono HBf.out.size))
       clear HUf HAf HBo HWf HMf HBf
       clear hb18
       have HNn:=hid (new_org w18 o)
       have HU96:=hid (HU90.out.below (HNn.out.2))
       have HA97:=hid (HA91.out.below (HNn.out.2))
       have HB98:=hid (HB92.out.below (HNn.out.2))
       have HW99:=hid (HW93.out.below (HNn.out.2))
       have HM100:=hid (HM94.out.below (HNn.out.2))
       have HB101:=hid (HB95.out.trans ((HNn.out.2).mono HB95.out.size))
       clear HU90 HA91 HB92 HW93 HM94 HB95
       have HX102:=hid HNn.out.1
       clear HNn
       go_upto_region 16 with (refine wpList_store_mid rfl 35 _ _ rfl w18.heap.size 0 (orgC o).toArray rfl rfl (new_there _) info_org (org_one _) ?_;try simp only [List.toList_toArray];generalize (w18.alloc (.cells #[.string ⟨#[]⟩,.int .i64 0,.string ⟨#[]⟩,.int .u32 0,.int .u16 0,.int .u16 0,.int .u16 0,.int .u16 0,.int .u16 0,.int .u16 0,.int .u16 0,.int .u16 0,.int .i64 0] OT)).setCells w18.heap.size 0 (orgC o)=w19 at *;generalize w18.heap.size=O5 at *)
       have HS0:Hid (SsAt w19 U1 WB O1 O2 O5 M u ({ u with path:=[[111,116,104,101,114]],qry:=[113],hasQ:=true,usr:=[115,111,109,101,98,111,100,121] }) pu (.slice (some ⟨PB,0,none⟩) 1 1) o p):=hid ⟨HU96.out,HW99.out,HA97.out,HB98.out,HX102.out,HM100.out⟩
       have HSd:=hid (HS0.out.below ((Below.refl w19.heap.size w19).drew))
       have HBd:=hid (HB101.out.drew)
       clear HS0 HU96 HA97 HB98 HW99 HM100 HX102 HB101
       obtain ⟨tt,htt⟩:∃tt,sameO o p=tt:=⟨_,rfl⟩
       obtain ⟨kk,hkk⟩:∃kk:Int,(if tt=true then (3:Int) else 0)=kk:=⟨_,rfl⟩
       have hlk:∀w,SsAt w U1 WB O1 O2 O5 M u ({ u with path:=[[111,116,104,101,114]],qry:=[113],hasQ:=true,usr:=[115,111,109,101,98,111,100,121] }) pu (.slice (some ⟨PB,0,none⟩) 1 1) o p→(Instr.lookup MpT (.map (some M)) (.agg (orgC p).toArray) false).run Tryz.prog w=.ok (.int .i64 kk) w:=fun w h=>by have:=look_oneO h.2.2.2.2.2 p;rw [HEQ.out,htt,hkk] at this;exact this
       have hqa:∀w,(Op.equalIn 10000 OT (.agg (orgC o).toArray) (.agg (orgC p).toArray)).run Tryz.prog w=.ok tt w:=fun w=>by rw [eq_orgC,htt]
       have hqs:∀w,(Op.equalIn 10000 OT (.agg (orgC o).toArray) (.agg (orgC o).toArray)).run Tryz.prog w=.ok true w:=fun w=>by rw [eq_orgC,sameO_self]
       have h9:(kk==3)=tt:=by rw [← hkk];exact three_eq tt
       clear htt hkk
       have hqa2:∀w,(Op.equal OT (.agg (orgC o).toArray) (.agg (orgC p).toArray)).run Tryz.prog w=.ok tt w:=hqa
       have hqs2:∀w,(Op.equal OT (.agg (orgC o).toArray) (.agg (orgC o).toArray)).run Tryz.prog w=.ok true w:=hqs
       have HQA2:=hid hqa2
       have HQS2:=hid hqs2
       clear hqa2 hqs2
       have HLK:=hid hlk
       have HQA:=hid hqa
       have HQS:=hid hqs
       have H9:=hid h9
       clear hlk hqa hqs h9
       refine wp_region_held_drew (S:=fun w'=>SsAt w' U1 WB O1 O2 O5 M u ({ u with path:=[[111,116,104,101,114]],qry:=[113],hasQ:=true,usr:=[115,111,109,101,98,111,100,121] }) pu (.slice (some ⟨PB,0,none⟩) 1 1) o p) (by kernel_rfl) ?_ (fun hHeld=>?_)
       ·exact HSd.out
       refine wpAnyH_ready (rs:=[0]) (by kernel_rfl) (by simp) ?_
       refine' AllReadyH.cons (by simp only [List.getElem?_toArray,List.getElem?_cons_succ,List.getElem?_cons_zero];rfl) (fun K hK=>?_) AllReadyH.nil
       go_simp
       refine (HFst.out _ HBd.out).mono ?_
       rintro e wa ⟨rfl,hb⟩
       have HSe:=hid (HSd.out.below hb)
       have HBe:=hid (HBd.out.trans (hb.mono HBd.out.size))
       clear hb HSd HBd
       have HSd:=hid HSe.out
       have HBd:=hid HBe.out
       clear HSe HBe
       go_wp2_with fail
       refine hK.out _ _ ?_ (fun hHeld=>?_)
       ·exact HSd.out
       clear hK K
       try simp only [Act.put,List.setIfInBounds_toArray,List.set_cons_zero,List.set_cons_succ]
       refine' wpAnyH_take (i:=1) (v:=?_) (by simp only [List.getElem?_toArray,List.getElem?_cons_succ,List.getElem?_cons_zero];rfl) (by kernel_rfl) (by kernel_rfl) (by kernel_rfl) (by intro _ _ _ h;exact h) (Or.inl ⟨by rfl,?hy3x1⟩) hHeld ?rs3x1
       case hy3x1=>(intro w hSw;clear hSw;go_simp;try with_reducible rfl)
       try simp only [Act.put,List.setIfInBounds_toArray,List.set_cons_zero,List.set_cons_succ]
       refine' wpAnyH_take (i:=2) (v:=?_) (by simp only [List.getElem?_toArray,List.getElem?_cons_succ,List.getElem?_cons_zero];rfl) (by kernel_rfl) (by kernel_rfl) (by kernel_rfl) (by intro _ _ _ h;exact h) (Or.inl ⟨by rfl,?hy3x2⟩) hHeld ?rs3x2
       case hy3x2=>(intro w hSw;clear hSw;go_simp;try with_reducible rfl)
       try simp only [Act.put,List.setIfInBounds_toArray,List.set_cons_zero,List.set_cons_succ]
       refine' wpAnyH_take (i:=3) (v:=_) (by simp only [List.getElem?_toArray,List.getElem?_cons_succ,List.getElem?_cons_zero];rfl) (by kernel_rfl) (by kernel_rfl) (by kernel_rfl) (by intro _ _ _ h;exact h) (yieldsIf_load_mid (by rfl) 35 _ rfl O2 0 rfl (orgC p) _ (fun w h=>org_range h.2.2.2.1) Tryz.underlying35 rfl info_org) hHeld ?rs3x3
       try simp only [Act.put,List.setIfInBounds_toArray,List.set_cons_zero,List.set_cons_succ]
       refine' wpAnyH_take (i:=4) (v:=?_) (by simp only [List.getElem?_toArray,List.getElem?_cons_succ,List.getElem?_cons_zero];rfl) (by kernel_rfl) (by kernel_rfl) (by kernel_rfl) (by intro _ _ _ h;exact h) (Or.inl ⟨by rfl,?hy3x4⟩) hHeld ?rs3x4
       case hy3x4=>(intro w hSw;have hl:=HLK.out w hSw;clear hSw;go_simp;try with_reducible rfl)
       try simp only [Act.put,List.setIfInBounds_toArray,List.set_cons_zero,List.set_cons_succ]
       refine' wpAnyH_take (i:=5) (v:=.bool tt) (by simp only [List.getElem?_toArray,List.getElem?_cons_succ,List.getElem?_cons_zero];rfl) (by kernel_rfl) (by kernel_rfl) (by kernel_rfl) (by intro _ _ _ h;exact h) (Or.inl ⟨by rfl,?hy3x5⟩) hHeld ?rs3x5
       case hy3x5=>(intro w hSw;have hl:=H9.out;clear hSw;go_simp;try (first | rfl | simp [hl]))
       try simp only [Act.put,List.setIfInBounds_toArray,List.set_cons_zero,List.set_cons_succ]
       refine' wpAnyH_take (i:=6) (v:=_) (by simp only [List.getElem?_toArray,List.getElem?_cons_succ,List.getElem?_cons_zero];rfl) (by kernel_rfl) (by kernel_rfl) (by kernel_rfl) (by intro _ _ _ h;exact h) (yieldsIf_load_mid (by rfl) 35 _ rfl O1 0 rfl (orgC o) _ (fun w h=>org_range h.2.2.1) Tryz.underlying35 rfl info_org) hHeld ?rs3x6
       try simp only [Act.put,List.setIfInBounds_toArray,List.set_cons_zero,List.set_cons_succ]
       refine' wpAnyH_take (i:=7) (v:=_) (by simp only [List.getElem?_toArray,List.getElem?_cons_succ,List.getElem?_cons_zero];rfl) (by kernel_rfl) (by kernel_rfl) (by kernel_rfl) (by intro _ _ _ h;exact h) (yieldsIf_load_mid (by rfl) 35 _ rfl O2 0 rfl (orgC p) _ (fun w h=>org_range h.2.2.2.1) Tryz.underlying35 rfl info_org) hHeld ?rs3x7
       try simp only [Act.put,List.setIfInBounds_toArray,List.set_cons_zero,List.set_cons_succ]
       refine' wpAnyH_take (i:=8) (v:=?_) (by simp only [List.getElem?_toArray,List.getElem?_cons_succ,List.getElem?_cons_zero];rfl) (by kernel_rfl) (by kernel_rfl) (by kernel_rfl) (by intro _ _ _ h;exact h) (Or.inl ⟨by rfl,?hy3x8⟩) hHeld ?rs3x8
       case hy3x8=>(intro w hSw;clear hSw;have hl:=HQA.out;have hl2:=HQA2.out;go_simp;try with_reducible rfl)
       try simp only [Act.put,List.setIfInBounds_toArray,List.set_cons_zero,List.set_cons_succ]
       refine' wpAnyH_take (i:=9) (v:=.bool true) (by simp only [List.getElem?_toArray,List.getElem?_cons_succ,List.getElem?_cons_zero];rfl) (by kernel_rfl) (by kernel_rfl) (by kernel_rfl) (by intro _ _ _ h;exact h) (Or.inl ⟨by rfl,?hy3x9⟩) hHeld ?rs3x9
       case hy3x9=>(intro w hSw;have hl:=H9.out;clear hSw;go_simp;try (first | rfl | simp [hl]))
       try simp only [Act.put,List.setIfInBounds_toArray,List.set_cons_zero,List.set_cons_succ]
       refine' wpAnyH_take (i:=10) (v:=?_) (by simp only [List.getElem?_toArray,List.getElem?_cons_succ,List.getElem?_cons_zero];rfl) (by kernel_rfl) (by kernel_rfl) (by kernel_rfl) (by intro _ _ _ h;exact h) (Or.inl ⟨by rfl,?hy3x10⟩) hHeld ?rs3x10
       case hy3x10=>(intro w hSw;clear hSw;go_simp;try with_reducible rfl)
       try simp only [Act.put,List.setIfInBounds_toArray,List.set_cons_zero,List.set_cons_succ]
       refine' wpAnyH_take (i:=11) (v:=?_) (by simp only [List.getElem?_toArray,List.getElem?_cons_succ,List.getElem?_cons_zero];rfl) (by kernel_rfl) (by kernel_rfl) (by kernel_rfl) (by intro _ _ _ h;exact h) (Or.inl ⟨by rfl,?hy3x11⟩) hHeld ?rs3x11
       case hy3x11=>(intro w hSw;clear hSw;go_simp;try with_reducible rfl)
       try simp only [Act.put,List.setIfInBounds_toArray,List.set_cons_zero,List.set_cons_succ]
       refine' wpAnyH_take (i:=12) (v:=_) (by simp only [List.getElem?_toArray,List.getElem?_cons_succ,List.getElem?_cons_zero];rfl) (by kernel_rfl) (by kernel_rfl) (by kernel_rfl) (by intro _ _ _ h;exact h) (yieldsIf_load_mid (by rfl) 35 _ rfl O5 0 rfl (orgC o) _ (fun w h=>org_range h.2.2.2.2.1) Tryz.underlying35 rfl info_org) hHeld ?rs3x12
       try simp only [Act.put,List.setIfInBounds_toArray,List.set_cons_zero,List.set_cons_succ]
       refine' wpAnyH_take (i:=13) (v:=_) (by simp only [List.getElem?_toArray,List.getElem?_cons_succ,List.getElem?_cons_zero];rfl) (by kernel_rfl) (by kernel_rfl) (by kernel_rfl) (by intro _ _ _ h;exact h) (yieldsIf_load_mid (by rfl) 35 _ rfl O1 0 rfl (orgC o) _ (fun w h=>org_range h.2.2.1) Tryz.underlying35 rfl info_org) hHeld ?rs3x13
       try simp only [Act.put,List.setIfInBounds_toArray,List.set_cons_zero,List.set_cons_succ]
       refine' wpAnyH_take (i:=14) (v:=?_) (by simp only [List.getElem?_toArray,List.getElem?_cons_succ,List.getElem?_cons_zero];rfl) (by kernel_rfl) (by kernel_rfl) (by kernel_rfl) (by intro _ _ _ h;exact h) (Or.inl ⟨by rfl,?hy3x14⟩) hHeld ?rs3x14
       case hy3x14=>(intro w hSw;clear hSw;have hl:=HQS.out;have hl2:=HQS2.out;go_simp;try with_reducible rfl)
       try simp only [Act.put,List.setIfInBounds_toArray,List.set_cons_zero,List.set_cons_succ]
       refine' wpAnyH_take (i:=15) (v:=?_) (by simp only [List.getElem?_toArray,List.getElem?_cons_succ,List.getElem?_cons_zero];rfl) (by kernel_rfl) (by kernel_rfl) (by kernel_rfl) (by intro _ _ _ h;exact h) (Or.inl ⟨by rfl,?hy3x15⟩) hHeld ?rs3x15
       case hy3x15=>(intro w hSw;clear hSw;go_simp;try with_reducible rfl)
       try simp only [Act.put,List.setIfInBounds_toArray,List.set_cons_zero,List.set_cons_succ]
       refine' wpAnyH_take (i:=16) (v:=?_) (by simp only [List.getElem?_toArray,List.getElem?_cons_succ,List.getElem?_cons_zero];rfl) (by kernel_rfl) (by kernel_rfl) (by kernel_rfl) (by intro _ _ _ h;exact h) (Or.inl ⟨by rfl,?hy3x16⟩) hHeld ?rs3x16
       case hy3x16=>(intro w hSw;clear hSw;go_simp;try with_reducible rfl)
       try simp only [Act.put,List.setIfInBounds_toArray,List.set_cons_zero,List.set_cons_succ]
       refine' wpAnyH_take (i:=17) (v:=?_) (by simp only [List.getElem?_toArray,List.getElem?_cons_succ,List.getElem?_cons_zero];rfl) (by kernel_rfl) (by kernel_rfl) (by kernel_rfl) (by intro _ _ _ h;exact h) (Or.inl ⟨by rfl,?hy3x17⟩) hHeld ?rs3x17
       case hy3x17=>(intro w hSw;clear hSw;go_simp;try with_reducible rfl)
       try simp only [Act.put,List.setIfInBounds_toArray,List.set_cons_zero,List.set_cons_succ]
       refine' wpAnyH_take (i:=18) (v:=?_) (by simp only [List.getElem?_toArray,List.getElem?_cons_succ,List.getElem?_cons_zero];rfl) (by kernel_rfl) (by kernel_rfl) (by kernel_rfl) (by intro _ _ _ h;exact h) (Or.inl ⟨by rfl,?hy3x18⟩) hHeld ?rs3x18
       case hy3x18=>(intro w hSw;clear hSw;go_simp;try with_reducible rfl)
       try simp only [Act.put,List.setIfInBounds_toArray,List.set_cons_zero,List.set_cons_succ]
       refine' wpAnyH_take (i:=19) (v:=?_) (by simp only [List.getElem?_toArray,List.getElem?_cons_succ,List.getElem?_cons_zero];rfl) (by kernel_rfl) (by kernel_rfl) (by kernel_rfl) (by intro _ _ _ h;exact h) (Or.inl ⟨by rfl,?hy3x19⟩) hHeld ?rs3x19
       case hy3x19=>(intro w hSw;clear hSw;go_simp;try with_reducible rfl)
       try simp only [Act.put,List.setIfInBounds_toArray,List.set_cons_zero,List.set_cons_succ]
       refine' wpAnyH_take (i:=20) (v:=?_) (by simp only [List.getElem?_toArray,List.getElem?_cons_succ,List.getElem?_cons_zero];rfl) (by kernel_rfl) (by kernel_rfl) (by kernel_rfl) (by intro _ _ _ h;exact h) (Or.inl ⟨by rfl,?hy3x20⟩) hHeld ?rs3x20
       case hy3x20=>(intro w hSw;clear hSw;go_simp;try with_reducible rfl)
       try simp only [Act.put,List.setIfInBounds_toArray,List.set_cons_zero,List.set_cons_succ]
       refine' wpAnyH_take (i:=21) (v:=?_) (by simp only [List.getElem?_toArray,List.getElem?_cons_succ,List.getElem?_cons_zero];rfl) (by kernel_rfl) (by kernel_rfl) (by kernel_rfl) (by intro _ _ _ h;exact h) (Or.inl ⟨by rfl,?hy3x21⟩) hHeld ?rs3x21
       case hy3x21=>(intro w hSw;clear hSw;go_simp;try with_reducible rfl)
       try simp only [Act.put,List.setIfInBounds_toArray,List.set_cons_zero,List.set_cons_succ]
       refine' wpAnyH_take (i:=22) (v:=?_) (by simp only [List.getElem?_toArray,List.getElem?_cons_succ,List.getElem?_cons_zero];rfl) (by kernel_rfl) (by kernel_rfl) (by kernel_rfl) (by intro _ _ _ h;exact h) (Or.inl ⟨by rfl,?hy3x22⟩) hHeld ?rs3x22
       case hy3x22=>(intro w hSw;clear hSw;go_simp;try with_reducible rfl)
       try simp only [Act.put,List.setIfInBounds_toArray,List.set_cons_zero,List.set_cons_succ]
       refine' wpAnyH_take (i:=23) (v:=?_) (by simp only [List.getElem?_toArray,List.getElem?_cons_succ,List.getElem?_cons_zero];rfl) (by kernel_rfl) (by kernel_rfl) (by kernel_rfl) (by intro _ _ _ h;exact h) (Or.inl ⟨by rfl,?hy3x23⟩) hHeld ?rs3x23
       case hy3x23=>(intro w hSw;clear hSw;go_simp;try with_reducible rfl)
       try simp only [Act.put,List.setIfInBounds_toArray,List.set_cons_zero,List.set_cons_succ]
       refine' wpAnyH_take (i:=24) (v:=?_) (by simp only [List.getElem?_toArray,List.getElem?_cons_succ,List.getElem?_cons_zero];rfl) (by kernel_rfl) (by kernel_rfl) (by kernel_rfl) (by intro _ _ _ h;exact h) (Or.inl ⟨by rfl,?hy3x24⟩) hHeld ?rs3x24
       case hy3x24=>(intro w hSw;clear hSw;go_simp;try with_reducible rfl)
       try simp only [Act.put,List.setIfInBounds_toArray,List.set_cons_zero,List.set_cons_succ]
       refine' wpAnyH_take (i:=25) (v:=_) (by simp only [List.getElem?_toArray,List.getElem?_cons_succ,List.getElem?_cons_zero];rfl) (by kernel_rfl) (by kernel_rfl) (by kernel_rfl) (by intro _ _ _ h;exact h) (yieldsIf_load_mid (by rfl) 29 _ rfl U1 0 rfl (urlC u pu) _ (fun w h=>url_range h.1) Tryz.underlying29 rfl info_url) hHeld ?rs3x25
       try simp only [Act.put,List.setIfInBounds_toArray,List.set_cons_zero,List.set_cons_succ]
       refine' wpAnyH_take (i:=26) (v:=_) (by simp only [List.getElem?_toArray,List.getElem?_cons_succ,List.getElem?_cons_zero];rfl) (by kernel_rfl) (by kernel_rfl) (by kernel_rfl) (by intro _ _ _ h;exact h) (yieldsIf_load_mid (by rfl) 29 _ rfl WB 0 rfl (urlC ({ u with path:=[[111,116,104,101,114]],qry:=[113],hasQ:=true,usr:=[115,111,109,101,98,111,100,121] }) (.slice (some ⟨PB,0,none⟩) 1 1)) _ (fun w h=>url_range h.2.1) Tryz.underlying29 rfl info_url) hHeld ?rs3x26
       try simp only [Act.put,List.setIfInBounds_toArray,List.set_cons_zero,List.set_cons_succ]
       refine wpAnyH_ready (rs:=[27]) (by kernel_rfl) (by simp) ?_
       refine' AllReadyH.cons (by simp only [List.getElem?_toArray,List.getElem?_cons_succ,List.getElem?_cons_zero];rfl) (fun K hK=>?_) AllReadyH.nil
       go_simp
       refine (HSW.out (.slice (some ⟨PB,0,none⟩) 1 1) _ rfl).mono ?_
       rintro e wb ⟨rfl,hb⟩
       have HSe:=hid (HSd.out.below hb)
       have HBe:=hid (HBd.out.trans (hb.mono HBd.out.size))
       clear hb HSd HBd
       have HSd:=hid HSe.out
       have HBd:=hid HBe.out
       clear HSe HBe
       go_wp2_with fail
       refine hK.out _ _ ?_ (fun hHeld=>?_)
       ·exact HSd.out
       clear hK K
       try simp only [Act.put,List.setIfInBounds_toArray,List.set_cons_zero,List.set_cons_succ]
       refine' wpAnyH_take (i:=28) (v:=?_) (by simp only [List.getElem?_toArray,List.getElem?_cons_succ,List.getElem?_cons_zero];rfl) (by kernel_rfl) (by kernel_rfl) (by kernel_rfl) (by intro _ _ _ h;exact h) (Or.inl ⟨by rfl,?hy3x28⟩) hHeld ?rs3x28
       case hy3x28=>(intro w hSw;clear hSw;go_simp;try with_reducible rfl)
       try simp only [Act.put,List.setIfInBounds_toArray,List.set_cons_zero,List.set_cons_succ]
       refine' wpAnyH_take (i:=29) (v:=?_) (by simp only [List.getElem?_toArray,List.getElem?_cons_succ,List.getElem?_cons_zero];rfl) (by kernel_rfl) (by kernel_rfl) (by kernel_rfl) (by intro _ _ _ h;exact h) (Or.inl ⟨by rfl,?hy3x29⟩) hHeld ?rs3x29
       case hy3x29=>(intro w hSw;clear hSw;go_simp;try with_reducible rfl)
       try simp only [Act.put,List.setIfInBounds_toArray,List.set_cons_zero,List.set_cons_succ]
       refine wpAnyH_ready (rs:=[30]) (by kernel_rfl) (by simp) ?_
       refine' AllReadyH.cons (by simp only [List.getElem?_toArray,List.getElem?_cons_succ,List.getElem?_cons_zero];rfl) (fun K hK=>?_) AllReadyH.nil
       go_simp
       all_goals
        refine hK.out _ _ ?_ (fun hHeld=>?_)
        ·exact HSd.out
        clear hK K
        try simp only [Act.put,List.setIfInBounds_toArray,List.set_cons_zero,List.set_cons_succ]
        refine wpAnyH_done (by kernel_rfl) ?_ _
        go_wp2_with fail
        all_goals
         go_ret
         exact ⟨by first | rfl | (simp;done) | (simp [sameO_self];done) | simp_all,HBd.out⟩
      ·rw [ht] at HS12 HS21
       have hop:=HIF.out.1 ht
       have hcd:=HCD.out rfl rfl hop
       subst hop
       subst hcd
       clear ht
       have HT12:Hid (∀w,Calls Tryz.prog 18 #[.agg (urlC u pu).toArray,.agg (urlC v pv).toArray] w fun e w2=>e=.returned (.bool true)∧Below w.heap.size w w2):=HS12
       have HT21:Hid (∀w,Calls Tryz.prog 18 #[.agg (urlC v pv).toArray,.agg (urlC u pu).toArray] w fun e w2=>e=.returned (.bool true)∧Below w.heap.size w w2):=HS21
       clear HS12 HS21
       have hq1:=fun w=>eq_orgC o o w
       have hq2:=fun w=>eqx_orgC o o w
       rw [sameO_self] at hq1 hq2
       go_upto_region 10 with (first | refine load_onU (by rfl) 35 _ rfl O1 0 rfl (orgC o) _ (org_range HA55.out) Tryz.underlying35 rfl info_org ?_ | refine load_onU (by rfl) 35 _ rfl O2 0 rfl (orgC o) _ (org_range HB56.out) Tryz.underlying35 rfl info_org ?_)
       have HQ1:=hid hq1
       have HQ2:=hid hq2
       clear hq1 hq2
       go_wp2_with (first | refine wpList_load_mid rfl 29 _ rfl U1 0 rfl (urlC u pu) _ (url_range HU53.out) Tryz.underlying29 rfl info_url ?_ | refine wpList_load_mid rfl 29 _ rfl U2 0 rfl (urlC v pv) _ (url_range HV54.out) Tryz.underlying29 rfl info_url ?_)
       refine (HT12.out _).mono ?_
       rintro e w13 ⟨rfl,hb13⟩
       have HU60:=hid (HU53.out.below (hb13))
       have HV61:=hid (HV54.out.below (hb13))
       have HA62:=hid (HA55.out.below (hb13))
       have HB63:=hid (HB56.out.below (hb13))
       have HC64:=hid (HC57.out.below (hb13))
       have HD65:=hid (HD59.out.below (hb13))
       have HB66:=hid (HB58.out.trans ((hb13).mono HB58.out.size))
       clear HU53 HV54 HA55 HB56 HC57 HD59 HB58
       clear hb13
       go_wp2_with (first | refine load_onU (by rfl) 29 _ rfl U2 0 rfl (urlC v pv) _ (url_range HV61.out) Tryz.underlying29 rfl info_url ?_ | refine load_onU (by rfl) 29 _ rfl U1 0 rfl (urlC u pu) _ (url_range HU60.out) Tryz.underlying29 rfl info_url ?_)
       refine (HT21.out _).mono ?_
       rintro e w14 ⟨rfl,hb14⟩
       have HU67:=hid (HU60.out.below (hb14))
       have HV68:=hid (HV61.out.below (hb14))
       have HA69:=hid (HA62.out.below (hb14))
       have HB70:=hid (HB63.out.below (hb14))
       have HC71:=hid (HC64.out.below (hb14))
       have HD72:=hid (HD65.out.below (hb14))
       have HB73:=hid (HB66.out.trans ((hb14).mono HB66.out.size))
       clear HU60 HV61 HA62 HB63 HC64 HD65 HB66
       clear hb14
       clear HT12 HT21
       have hq3:=fun w=>eq_orgC c c w
       have hq4:=fun w=>eqx_orgC c c w
       rw [sameO_self] at hq3 hq4
       go_upto_region 12 with (first | refine load_onU (by rfl) 35 _ rfl O3 0 rfl (orgC c) _ (org_range HC71.out) Tryz.underlying35 rfl info_org ?_ | refine load_onU (by rfl) 35 _ rfl O4 0 rfl (orgC c) _ (org_range HD72.out) Tryz.underlying35 rfl info_org ?_ | fail)
       clear hq3 hq4
       have hmm:=@run_makeMap Tryz.prog
       have hpn:(Instr.mapUpdate MpT (.map (some w14.heap.size)) (.agg (orgC o).toArray) (.int .i64 3)).run Tryz.prog (w14.alloc (.map #[] 0))=.ok () (putObjH (w14.alloc (.map #[] 0)) w14.heap.size (.map #[⟨orgV o,.int .i64 3,0⟩] 1)):=put_newO (heap_alloc_new w14 (.map #[] 0)) o (.int .i64 3)
       have HMn:Hid (MpAt (putObjH (w14.alloc (.map #[] 0)) w14.heap.size (.map #[⟨orgV o,.int .i64 3,0⟩] 1)) w14.heap.size #[⟨orgV o,.int .i64 3,0⟩] 1):=hid (MpAt.put (w:=w14.alloc (.map #[] 0)) (heap_alloc_new w14 (.map #[] 0)))
       have hbn:Below w14.heap.size w14 (putObjH (w14.alloc (.map #[] 0)) w14.heap.size (.map #[⟨orgV o,.int .i64 3,0⟩] 1)):=putO_below (ballC w14 _) (Nat.le_refl _) _
       have HAl:=hid (HA69.out.below (ballC w14 (.map #[] 0)))
       have HU74:=hid (HU67.out.below (hbn))
       have HA75:=hid (HA69.out.below (hbn))
       have HB76:=hid (HB70.out.below (hbn))
       have HB77:=hid (HB73.out.trans ((hbn).mono HB73.out.size))
       clear HU67 HA69 HB70 HB73
       clear hbn
       go_upto_region 13 with (refine wpList_load_mid rfl 35 _ rfl O1 0 rfl (orgC o) _ (org_range HAl.out) Tryz.underlying35 rfl info_org ?_)
       generalize (putObjH (w14.alloc (.map #[] 0)) w14.heap.size (.map #[⟨orgV o,.int .i64 3,0⟩] 1))=w15 at *
       generalize w14.heap.size=M at *
       clear hmm hpn HAl
       have lU:U1 < w15.heap.size:=HU74.out.lt
       have lA:O1 < w15.heap.size:=HA75.out.lt
       have lB:O2 < w15.heap.size:=HB76.out.lt
       have lM:M < w15.heap.size:=mp_lt HMn.out
       have LU:Hid (U1 < w15.heap.size∧O1 < w15.heap.size∧O2 < w15.heap.size∧M < w15.heap.size):=hid ⟨lU,lA,lB,lM⟩
       clear lU lA lB lM
       have LW:Hid (w.heap.size≤w15.heap.size):=hid HB77.out.size
       have HLd:=hid HU74.out
       have HNn:=hid (new_url w15 u pu)
       have HU78:=hid (HU74.out.below (HNn.out.2))
       have HA79:=hid (HA75.out.below (HNn.out.2))
       have HB80:=hid (HB76.out.below (HNn.out.2))
       have HM81:=hid (HMn.out.below (HNn.out.2))
       have HB82:=hid (HB77.out.trans ((HNn.out.2).mono HB77.out.size))
       clear HU74 HA75 HB76 HMn HB77
       have HW83:=hid HNn.out.1
       clear HNn
       go_upto_region 14 with (first | refine wpList_load_mid rfl 29 _ rfl U1 0 rfl (urlC u pu) _ (url_range HLd.out) Tryz.underlying29 rfl info_url ?_ | (refine wpList_store_mid rfl 29 _ _ rfl w15.heap.size 0 (urlC u pu).toArray rfl rfl (new_urlT _) info_url (url_one u pu HOU.out) ?_;try simp only [List.toList_toArray];generalize (w15.alloc (.cells #[.string ⟨#[]⟩,.string ⟨#[]⟩,.string ⟨#[]⟩,.bool false,.int .i64 0,.string ⟨#[]⟩,.int .u32 0,.int .u16 0,.int .u16 0,.int .u16 0,.int .u16 0,.int .u16 0,.int .u16 0,.int .u16 0,.int .u16 0,.int .i64 0,.bool false,.string ⟨#[]⟩,.slice none 0 0,.bool false,.string ⟨#[]⟩,.bool false,.string ⟨#[]⟩] UT)).setCells w15.heap.size 0 (urlC u pu)=w16 at *;generalize w15.heap.size=WB at *))
       clear HLd
       have hal:Below w16.heap.size w16 (w16.alloc (.cells #[.string ⟨#[111,116,104,101,114]⟩] 9)):=ballC _ _
       have HU84:=hid (HU78.out.below (hal))
       have HA85:=hid (HA79.out.below (hal))
       have HB86:=hid (HB80.out.below (hal))
       have HM87:=hid (HM81.out.below (hal))
       have HW88:=hid (HW83.out.below (hal))
       have HB89:=hid (HB82.out.trans ((hal).mono HB82.out.size))
       clear HU78 HA79 HB80 HM81 HW83 HB82
       clear hal
       have s18:=(HW88.out.cell 18 rfl).1
       have z18:=(HW88.out.cell 18 rfl).2
       have s20:=((HW88.out.set 18 (.slice (some ⟨w16.heap.size,0,none⟩) 1 1)).cell 20 rfl).1
       have z20:=((HW88.out.set 18 (.slice (some ⟨w16.heap.size,0,none⟩) 1 1)).cell 20 rfl).2
       have s19:=(((HW88.out.set 18 (.slice (some ⟨w16.heap.size,0,none⟩) 1 1)).set 20 (.string ⟨#[113]⟩)).cell 19 rfl).1
       have z19:=(((HW88.out.set 18 (.slice (some ⟨w16.heap.size,0,none⟩) 1 1)).set 20 (.string ⟨#[113]⟩)).cell 19 rfl).2
       have s1:=((((HW88.out.set 18 (.slice (some ⟨w16.heap.size,0,none⟩) 1 1)).set 20 (.string ⟨#[113]⟩)).set 19 (.bool true)).cell 1 rfl).1
       have z1:=((((HW88.out.set 18 (.slice (some ⟨w16.heap.size,0,none⟩) 1 1)).set 20 (.string ⟨#[113]⟩)).set 19 (.bool true)).cell 1 rfl).2
       have HWf:Hid (Bc UT (((((w16.alloc (.cells #[.string ⟨#[111,116,104,101,114]⟩] 9)).setCell ⟨WB,18,none⟩ (.slice (some ⟨w16.heap.size,0,none⟩) 1 1)).setCell ⟨WB,20,none⟩ (.string ⟨#[113]⟩)).setCell ⟨WB,19,none⟩ (.bool true)).setCell ⟨WB,1,none⟩ (.string ⟨#[115,111,109,101,98,111,100,121]⟩)) WB (urlC ({ u with path:=[[111,116,104,101,114]],qry:=[113],hasQ:=true,usr:=[115,111,109,101,98,111,100,121] }) (.slice (some ⟨w16.heap.size,0,none⟩) 1 1))):=hid ((((HW88.out.set 18 (.slice (some ⟨w16.heap.size,0,none⟩) 1 1)).set 20 (.string ⟨#[113]⟩)).set 19 (.bool true)).set 1 (.string ⟨#[115,111,109,101,98,111,100,121]⟩))
       have HUf:Hid (Bc UT (((((w16.alloc (.cells #[.string ⟨#[111,116,104,101,114]⟩] 9)).setCell ⟨WB,18,none⟩ (.slice (some ⟨w16.heap.size,0,none⟩) 1 1)).setCell ⟨WB,20,none⟩ (.string ⟨#[113]⟩)).setCell ⟨WB,19,none⟩ (.bool true)).setCell ⟨WB,1,none⟩ (.string ⟨#[115,111,109,101,98,111,100,121]⟩)) U1 (urlC u pu)):=by
        have h:=LU.out
        exact hid ((((HU84.out.kept (heap_setCell_other _ _ _ _ (by show _≠WB;omega))).kept (heap_setCell_other _ _ _ _ (by show _≠WB;omega))).kept (heap_setCell_other _ _ _ _ (by show _≠WB;omega))).kept (heap_setCell_other _ _ _ _ (by show _≠WB;omega)))
       have HAf:Hid (Bc OT (((((w16.alloc (.cells #[.string ⟨#[111,116,104,101,114]⟩] 9)).setCell ⟨WB,18,none⟩ (.slice (some ⟨w16.heap.size,0,none⟩) 1 1)).setCell ⟨WB,20,none⟩ (.string ⟨#[113]⟩)).setCell ⟨WB,19,none⟩ (.bool true)).setCell ⟨WB,1,none⟩ (.string ⟨#[115,111,109,101,98,111,100,121]⟩)) O1 (orgC o)):=by
        have h:=LU.out
        exact hid ((((HA85.out.kept (heap_setCell_other _ _ _ _ (by show _≠WB;omega))).kept (heap_setCell_other _ _ _ _ (by show _≠WB;omega))).kept (heap_setCell_other _ _ _ _ (by show _≠WB;omega))).kept (heap_setCell_other _ _ _ _ (by show _≠WB;omega)))
       have HBo:Hid (Bc OT (((((w16.alloc (.cells #[.string ⟨#[111,116,104,101,114]⟩] 9)).setCell ⟨WB,18,none⟩ (.slice (some ⟨w16.heap.size,0,none⟩) 1 1)).setCell ⟨WB,20,none⟩ (.string ⟨#[113]⟩)).setCell ⟨WB,19,none⟩ (.bool true)).setCell ⟨WB,1,none⟩ (.string ⟨#[115,111,109,101,98,111,100,121]⟩)) O2 (orgC o)):=by
        have h:=LU.out
        exact hid ((((HB86.out.kept (heap_setCell_other _ _ _ _ (by show _≠WB;omega))).kept (heap_setCell_other _ _ _ _ (by show _≠WB;omega))).kept (heap_setCell_other _ _ _ _ (by show _≠WB;omega))).kept (heap_setCell_other _ _ _ _ (by show _≠WB;omega)))
       have HMf:Hid (MpAt (((((w16.alloc (.cells #[.string ⟨#[111,116,104,101,114]⟩] 9)).setCell ⟨WB,18,none⟩ (.slice (some ⟨w16.heap.size,0,none⟩) 1 1)).setCell ⟨WB,20,none⟩ (.string ⟨#[113]⟩)).setCell ⟨WB,19,none⟩ (.bool true)).setCell ⟨WB,1,none⟩ (.string ⟨#[115,111,109,101,98,111,100,121]⟩)) M #[⟨orgV o,.int .i64 3,0⟩] 1):=by
        have h:=LU.out
        have e:∀(v:World) (i:Nat) (x:Value),MpAt v M #[⟨orgV o,.int .i64 3,0⟩] 1→MpAt (v.setCell ⟨WB,i,none⟩ x) M #[⟨orgV o,.int .i64 3,0⟩] 1:=fun v i x h2=>(heap_setCell_other v _ _ _ (by show _≠WB;omega)).trans h2
        exact hid (e _ _ _ (e _ _ _ (e _ _ _ (e _ _ _ HM87.out))))
       have HBf:Hid (Below w.heap.size w (((((w16.alloc (.cells #[.string ⟨#[111,116,104,101,114]⟩] 9)).setCell ⟨WB,18,none⟩ (.slice (some ⟨w16.heap.size,0,none⟩) 1 1)).setCell ⟨WB,20,none⟩ (.string ⟨#[113]⟩)).setCell ⟨WB,19,none⟩ (.bool true)).setCell ⟨WB,1,none⟩ (.string ⟨#[115,111,109,101,98,111,100,121]⟩))):=hid ((((HB89.out.setCell (p:=⟨WB,18,none⟩) LW.out _).setCell (p:=⟨WB,20,none⟩) LW.out _).setCell (p:=⟨WB,19,none⟩) LW.out _).setCell (p:=⟨WB,1,none⟩) LW.out _)
       clear HU84 HA85 HB86 HW88 HM87 HB89
       go_upto_region 15 with fail
       try clear s18
       try clear z18
       try clear s20
       try clear z20
       try clear s19
       try clear z19
       try clear s1
       try clear z1
       generalize (((((w16.alloc (.cells #[.string ⟨#[111,116,104,101,114]⟩] 9)).setCell ⟨WB,18,none⟩ (.slice (some ⟨w16.heap.size,0,none⟩) 1 1)).setCell ⟨WB,20,none⟩ (.string ⟨#[113]⟩)).setCell ⟨WB,19,none⟩ (.bool true)).setCell ⟨WB,1,none⟩ (.string ⟨#[115,111,109,101,98,111,100,121]⟩))=w17 at *
       generalize w16.heap.size=PB at *
       go_wp2_with (refine wpList_load_mid rfl 29 _ rfl WB 0 rfl (urlC ({ u with path:=[[111,116,104,101,114]],qry:=[113],hasQ:=true,usr:=[115,111,109,101,98,111,100,121] }) (.slice (some ⟨PB,0,none⟩) 1 1)) _ (url_range HWf.out) Tryz.underlying29 rfl info_url ?_)
       refine (HOW.out (.slice (some ⟨PB,0,none⟩) 1 1) _).mono ?_
       rintro e w18 ⟨rfl,hb18⟩
       have HU90:=hid (HUf.out.below (hb18))
       have HA91:=hid (HAf.out.below (hb18))
       have HB92:=hid (HBo.out.below (hb18))
       have HW93:=hid (HWf.out.below (hb18))
       have HM94:=hid (HMf.out.below (hb18))
       have HB95:=hid (HBf.out.trans ((hb18).mono HBf.out.size))
       clear HUf HAf HBo HWf HMf HBf
       clear hb18
       have HNn:=hid (new_org w18 o)
       have HU96:=hid (HU90.out.below (HNn.out.2))
       have HA97:=hid (HA91.out.below (HNn.out.2))
       have HB98:=hid (HB92.out.below (HNn.out.2))
       have HW99:=hid (HW93.out.below (HNn.out.2))
       have HM100:=hid (HM94.out.below (HNn.out.2))
       have HB101:=hid (HB95.out.trans ((HNn.out.2).mono HB95.out.size))
       clear HU90 HA91 HB92 HW93 HM94 HB95
       have HX102:=hid HNn.out.1
       clear HNn
       go_upto_region 16 with (refine wpList_store_mid rfl 35 _ _ rfl w18.heap.size 0 (orgC o).toArray rfl rfl (new_there _) info_org (org_one _) ?_;try simp only [List.toList_toArray];generalize (w18.alloc (.cells #[.string ⟨#[]⟩,.int .i64 0,.string ⟨#[]⟩,.int .u32 0,.int .u16 0,.int .u16 0,.int .u16 0,.int .u16 0,.int .u16 0,.int .u16 0,.int .u16 0,.int .u16 0,.int .i64 0] OT)).setCells w18.heap.size 0 (orgC o)=w19 at *;generalize w18.heap.size=O5 at *)
       have HS0:Hid (SsAt w19 U1 WB O1 O2 O5 M u ({ u with path:=[[111,116,104,101,114]],qry:=[113],hasQ:=true,usr:=[115,111,109,101,98,111,100,121] }) pu (.slice (some ⟨PB,0,none⟩) 1 1) o o):=hid ⟨HU96.out,HW99.out,HA97.out,HB98.out,HX102.out,HM100.out⟩
       have HSd:=hid (HS0.out.below ((Below.refl w19.heap.size w19).drew))
       have HBd:=hid (HB101.out.drew)
       clear HS0 HU96 HA97 HB98 HW99 HM100 HX102 HB101
       have hlk:∀w,SsAt w U1 WB O1 O2 O5 M u ({ u with path:=[[111,116,104,101,114]],qry:=[113],hasQ:=true,usr:=[115,111,109,101,98,111,100,121] }) pu (.slice (some ⟨PB,0,none⟩) 1 1) o o→(Instr.lookup MpT (.map (some M)) (.agg (orgC o).toArray) false).run Tryz.prog w=.ok (.int .i64 3) w:=fun w h=>by have:=look_oneO h.2.2.2.2.2 o;rw [sameO_self,if_pos rfl] at this;exact this
       have hqa:∀w,(Op.equalIn 10000 OT (.agg (orgC o).toArray) (.agg (orgC o).toArray)).run Tryz.prog w=.ok true w:=fun w=>by rw [eq_orgC,sameO_self]
       have hqs:=hqa
       have h9:True:=trivial
       have hqa2:∀w,(Op.equal OT (.agg (orgC o).toArray) (.agg (orgC o).toArray)).run Tryz.prog w=.ok true w:=hqa
       have hqs2:∀w,(Op.equal OT (.agg (orgC o).toArray) (.agg (orgC o).toArray)).run Tryz.prog w=.ok true w:=hqs
       have HQA2:=hid hqa2
       have HQS2:=hid hqs2
       clear hqa2 hqs2
       have HLK:=hid hlk
       have HQA:=hid hqa
       have HQS:=hid hqs
       have H9:=hid h9
       clear hlk hqa hqs h9
       refine wp_region_held_drew (S:=fun w'=>SsAt w' U1 WB O1 O2 O5 M u ({ u with path:=[[111,116,104,101,114]],qry:=[113],hasQ:=true,usr:=[115,111,109,101,98,111,100,121] }) pu (.slice (some ⟨PB,0,none⟩) 1 1) o o) (by kernel_rfl) ?_ (fun hHeld=>?_)
       ·exact HSd.out
       refine wpAnyH_ready (rs:=[0]) (by kernel_rfl) (by simp) ?_
       refine' AllReadyH.cons (by simp only [List.getElem?_toArray,List.getElem?_cons_succ,List.getElem?_cons_zero];rfl) (fun K hK=>?_) AllReadyH.nil
       go_simp
       refine (HFst.out _ HBd.out).mono ?_
       rintro e wa ⟨rfl,hb⟩
       have HSe:=hid (HSd.out.below hb)
       have HBe:=hid (HBd.out.trans (hb.mono HBd.out.size))
       clear hb HSd HBd
       have HSd:=hid HSe.out
       have HBd:=hid HBe.out
       clear HSe HBe
       go_wp2_with fail
       refine hK.out _ _ ?_ (fun hHeld=>?_)
       ·exact HSd.out
       clear hK K
       try simp only [Act.put,List.setIfInBounds_toArray,List.set_cons_zero,List.set_cons_succ]
       refine' wpAnyH_take (i:=1) (v:=?_) (by simp only [List.getElem?_toArray,List.getElem?_cons_succ,List.getElem?_cons_zero];rfl) (by kernel_rfl) (by kernel_rfl) (by kernel_rfl) (by intro _ _ _ h;exact h) (Or.inl ⟨by rfl,?hy4x1⟩) hHeld ?rs4x1
       case hy4x1=>(intro w hSw;clear hSw;go_simp;try with_reducible rfl)
       try simp only [Act.put,List.setIfInBounds_toArray,List.set_cons_zero,List.set_cons_succ]
       refine' wpAnyH_take (i:=2) (v:=?_) (by simp only [List.getElem?_toArray,List.getElem?_cons_succ,List.getElem?_cons_zero];rfl) (by kernel_rfl) (by kernel_rfl) (by kernel_rfl) (by intro _ _ _ h;exact h) (Or.inl ⟨by rfl,?hy4x2⟩) hHeld ?rs4x2
       case hy4x2=>(intro w hSw;clear hSw;go_simp;try with_reducible rfl)
       try simp only [Act.put,List.setIfInBounds_toArray,List.set_cons_zero,List.set_cons_succ]
       refine' wpAnyH_take (i:=3) (v:=_) (by simp only [List.getElem?_toArray,List.getElem?_cons_succ,List.getElem?_cons_zero];rfl) (by kernel_rfl) (by kernel_rfl) (by kernel_rfl) (by intro _ _ _ h;exact h) (yieldsIf_load_mid (by rfl) 35 _ rfl O2 0 rfl (orgC o) _ (fun w h=>org_range h.2.2.2.1) Tryz.underlying35 rfl info_org) hHeld ?rs4x3
       try simp only [Act.put,List.setIfInBounds_toArray,List.set_cons_zero,List.set_cons_succ]
       refine' wpAnyH_take (i:=4) (v:=?_) (by simp only [List.getElem?_toArray,List.getElem?_cons_succ,List.getElem?_cons_zero];rfl) (by kernel_rfl) (by kernel_rfl) (by kernel_rfl) (by intro _ _ _ h;exact h) (Or.inl ⟨by rfl,?hy4x4⟩) hHeld ?rs4x4
       case hy4x4=>(intro w hSw;have hl:=HLK.out w hSw;clear hSw;go_simp;try with_reducible rfl)
       try simp only [Act.put,List.setIfInBounds_toArray,List.set_cons_zero,List.set_cons_succ]
       refine' wpAnyH_take (i:=5) (v:=?_) (by simp only [List.getElem?_toArray,List.getElem?_cons_succ,List.getElem?_cons_zero];rfl) (by kernel_rfl) (by kernel_rfl) (by kernel_rfl) (by intro _ _ _ h;exact h) (Or.inl ⟨by rfl,?hy4x5⟩) hHeld ?rs4x5
       case hy4x5=>(intro w hSw;have hl:=H9.out;clear hSw;go_simp;try with_reducible rfl)
       try simp only [Act.put,List.setIfInBounds_toArray,List.set_cons_zero,List.set_cons_succ]
       refine' wpAnyH_take (i:=6) (v:=_) (by simp only [List.getElem?_toArray,List.getElem?_cons_succ,List.getElem?_cons_zero];rfl) (by kernel_rfl) (by kernel_rfl) (by kernel_rfl) (by intro _ _ _ h;exact h) (yieldsIf_load_mid (by rfl) 35 _ rfl O1 0 rfl (orgC o) _ (fun w h=>org_range h.2.2.1) Tryz.underlying35 rfl info_org) hHeld ?rs4x6
       try simp only [Act.put,List.setIfInBounds_toArray,List.set_cons_zero,List.set_cons_succ]
       refine' wpAnyH_take (i:=7) (v:=_) (by simp only [List.getElem?_toArray,List.getElem?_cons_succ,List.getElem?_cons_zero];rfl) (by kernel_rfl) (by kernel_rfl) (by kernel_rfl) (by intro _ _ _ h;exact h) (yieldsIf_load_mid (by rfl) 35 _ rfl O2 0 rfl (orgC o) _ (fun w h=>org_range h.2.2.2.1) Tryz.underlying35 rfl info_org) hHeld ?rs4x7
       try simp only [Act.put,List.setIfInBounds_toArray,List.set_cons_zero,List.set_cons_succ]
       refine' wpAnyH_take (i:=8) (v:=?_) (by simp only [List.getElem?_toArray,List.getElem?_cons_succ,List.getElem?_cons_zero];rfl) (by kernel_rfl) (by kernel_rfl) (by kernel_rfl) (by intro _ _ _ h;exact h) (Or.inl ⟨by rfl,?hy4x8⟩) hHeld ?rs4x8
       case hy4x8=>(intro w hSw;clear hSw;have hl:=HQA.out;have hl2:=HQA2.out;go_simp;try with_reducible rfl)
       try simp only [Act.put,List.setIfInBounds_toArray,List.set_cons_zero,List.set_cons_succ]
       refine' wpAnyH_take (i:=9) (v:=?_) (by simp only [List.getElem?_toArray,List.getElem?_cons_succ,List.getElem?_cons_zero];rfl) (by kernel_rfl) (by kernel_rfl) (by kernel_rfl) (by intro _ _ _ h;exact h) (Or.inl ⟨by rfl,?hy4x9⟩) hHeld ?rs4x9
       case hy4x9=>(intro w hSw;clear hSw;go_simp;try with_reducible rfl)
       try simp only [Act.put,List.setIfInBounds_toArray,List.set_cons_zero,List.set_cons_succ]
       refine' wpAnyH_take (i:=10) (v:=?_) (by simp only [List.getElem?_toArray,List.getElem?_cons_succ,List.getElem?_cons_zero];rfl) (by kernel_rfl) (by kernel_rfl) (by kernel_rfl) (by intro _ _ _ h;exact h) (Or.inl ⟨by rfl,?hy4x10⟩) hHeld ?rs4x10
       case hy4x10=>(intro w hSw;clear hSw;go_simp;try with_reducible rfl)
       try simp only [Act.put,List.setIfInBounds_toArray,List.set_cons_zero,List.set_cons_succ]
       refine' wpAnyH_take (i:=11) (v:=?_) (by simp only [List.getElem?_toArray,List.getElem?_cons_succ,List.getElem?_cons_zero];rfl) (by kernel_rfl) (by kernel_rfl) (by kernel_rfl) (by intro _ _ _ h;exact h) (Or.inl ⟨by rfl,?hy4x11⟩) hHeld ?rs4x11
       case hy4x11=>(intro w hSw;clear hSw;go_simp;try with_reducible rfl)
       try simp only [Act.put,List.setIfInBounds_toArray,List.set_cons_zero,List.set_cons_succ]
       refine' wpAnyH_take (i:=12) (v:=_) (by simp only [List.getElem?_toArray,List.getElem?_cons_succ,List.getElem?_cons_zero];rfl) (by kernel_rfl) (by kernel_rfl) (by kernel_rfl) (by intro _ _ _ h;exact h) (yieldsIf_load_mid (by rfl) 35 _ rfl O5 0 rfl (orgC o) _ (fun w h=>org_range h.2.2.2.2.1) Tryz.underlying35 rfl info_org) hHeld ?rs4x12
       try simp only [Act.put,List.setIfInBounds_toArray,List.set_cons_zero,List.set_cons_succ]
       refine' wpAnyH_take (i:=13) (v:=_) (by simp only [List.getElem?_toArray,List.getElem?_cons_succ,List.getElem?_cons_zero];rfl) (by kernel_rfl) (by kernel_rfl) (by kernel_rfl) (by intro _ _ _ h;exact h) (yieldsIf_load_mid (by rfl) 35 _ rfl O1 0 rfl (orgC o) _ (fun w h=>org_range h.2.2.1) Tryz.underlying35 rfl info_org) hHeld ?rs4x13
       try simp only [Act.put,List.setIfInBounds_toArray,List.set_cons_zero,List.set_cons_succ]
       refine' wpAnyH_take (i:=14) (v:=?_) (by simp only [List.getElem?_toArray,List.getElem?_cons_succ,List.getElem?_cons_zero];rfl) (by kernel_rfl) (by kernel_rfl) (by kernel_rfl) (by intro _ _ _ h;exact h) (Or.inl ⟨by rfl,?hy4x14⟩) hHeld ?rs4x14
       case hy4x14=>(intro w hSw;clear hSw;have hl:=HQS.out;have hl2:=HQS2.out;go_simp;try with_reducible rfl)
       try simp only [Act.put,List.setIfInBounds_toArray,List.set_cons_zero,List.set_cons_succ]
       refine' wpAnyH_take (i:=15) (v:=?_) (by simp only [List.getElem?_toArray,List.getElem?_cons_succ,List.getElem?_cons_zero];rfl) (by kernel_rfl) (by kernel_rfl) (by kernel_rfl) (by intro _ _ _ h;exact h) (Or.inl ⟨by rfl,?hy4x15⟩) hHeld ?rs4x15
       case hy4x15=>(intro w hSw;clear hSw;go_simp;try with_reducible rfl)
       try simp only [Act.put,List.setIfInBounds_toArray,List.set_cons_zero,List.set_cons_succ]
       refine' wpAnyH_take (i:=16) (v:=?_) (by simp only [List.getElem?_toArray,List.getElem?_cons_succ,List.getElem?_cons_zero];rfl) (by kernel_rfl) (by kernel_rfl) (by kernel_rfl) (by intro _ _ _ h;exact h) (Or.inl ⟨by rfl,?hy4x16⟩) hHeld ?rs4x16
       case hy4x16=>(intro w hSw;clear hSw;go_simp;try with_reducible rfl)
       try simp only [Act.put,List.setIfInBounds_toArray,List.set_cons_zero,List.set_cons_succ]
       refine' wpAnyH_take (i:=17) (v:=?_) (by simp only [List.getElem?_toArray,List.getElem?_cons_succ,List.getElem?_cons_zero];rfl) (by kernel_rfl) (by kernel_rfl) (by kernel_rfl) (by intro _ _ _ h;exact h) (Or.inl ⟨by rfl,?hy4x17⟩) hHeld ?rs4x17
       case hy4x17=>(intro w hSw;clear hSw;go_simp;try with_reducible rfl)
       try simp only [Act.put,List.setIfInBounds_toArray,List.set_cons_zero,List.set_cons_succ]
       refine' wpAnyH_take (i:=18) (v:=?_) (by simp only [List.getElem?_toArray,List.getElem?_cons_succ,List.getElem?_cons_zero];rfl) (by kernel_rfl) (by kernel_rfl) (by kernel_rfl) (by intro _ _ _ h;exact h) (Or.inl ⟨by rfl,?hy4x18⟩) hHeld ?rs4x18
       case hy4x18=>(intro w hSw;clear hSw;go_simp;try with_reducible rfl)
       try simp only [Act.put,List.setIfInBounds_toArray,List.set_cons_zero,List.set_cons_succ]
       refine' wpAnyH_take (i:=19) (v:=?_) (by simp only [List.getElem?_toArray,List.getElem?_cons_succ,List.getElem?_cons_zero];rfl) (by kernel_rfl) (by kernel_rfl) (by kernel_rfl) (by intro _ _ _ h;exact h) (Or.inl ⟨by rfl,?hy4x19⟩) hHeld ?rs4x19
       case hy4x19=>(intro w hSw;clear hSw;go_simp;try with_reducible rfl)
       try simp only [Act.put,List.setIfInBounds_toArray,List.set_cons_zero,List.set_cons_succ]
       refine' wpAnyH_take (i:=20) (v:=?_) (by simp only [List.getElem?_toArray,List.getElem?_cons_succ,List.getElem?_cons_zero];rfl) (by kernel_rfl) (by kernel_rfl) (by kernel_rfl) (by intro _ _ _ h;exact h) (Or.inl ⟨by rfl,?hy4x20⟩) hHeld ?rs4x20
       case hy4x20=>(intro w hSw;clear hSw;go_simp;try with_reducible rfl)
       try simp only [Act.put,List.setIfInBounds_toArray,List.set_cons_zero,List.set_cons_succ]
       refine' wpAnyH_take (i:=21) (v:=?_) (by simp only [List.getElem?_toArray,List.getElem?_cons_succ,List.getElem?_cons_zero];rfl) (by kernel_rfl) (by kernel_rfl) (by kernel_rfl) (by intro _ _ _ h;exact h) (Or.inl ⟨by rfl,?hy4x21⟩) hHeld ?rs4x21
       case hy4x21=>(intro w hSw;clear hSw;go_simp;try with_reducible rfl)
       try simp only [Act.put,List.setIfInBounds_toArray,List.set_cons_zero,List.set_cons_succ]
       refine' wpAnyH_take (i:=22) (v:=?_) (by simp only [List.getElem?_toArray,List.getElem?_cons_succ,List.getElem?_cons_zero];rfl) (by kernel_rfl) (by kernel_rfl) (by kernel_rfl) (by intro _ _ _ h;exact h) (Or.inl ⟨by rfl,?hy4x22⟩) hHeld ?rs4x22
       case hy4x22=>(intro w hSw;clear hSw;go_simp;try with_reducible rfl)
       try simp only [Act.put,List.setIfInBounds_toArray,List.set_cons_zero,List.set_cons_succ]
       refine' wpAnyH_take (i:=23) (v:=?_) (by simp only [List.getElem?_toArray,List.getElem?_cons_succ,List.getElem?_cons_zero];rfl) (by kernel_rfl) (by kernel_rfl) (by kernel_rfl) (by intro _ _ _ h;exact h) (Or.inl ⟨by rfl,?hy4x23⟩) hHeld ?rs4x23
       case hy4x23=>(intro w hSw;clear hSw;go_simp;try with_reducible rfl)
       try simp only [Act.put,List.setIfInBounds_toArray,List.set_cons_zero,List.set_cons_succ]
       refine' wpAnyH_take (i:=24) (v:=?_) (by simp only [List.getElem?_toArray,List.getElem?_cons_succ,List.getElem?_cons_zero];rfl) (by kernel_rfl) (by kernel_rfl) (by kernel_rfl) (by intro _ _ _ h;exact h) (Or.inl ⟨by rfl,?hy4x24⟩) hHeld ?rs4x24
       case hy4x24=>(intro w hSw;clear hSw;go_simp;try with_reducible rfl)
       try simp only [Act.put,List.setIfInBounds_toArray,List.set_cons_zero,List.set_cons_succ]
       refine' wpAnyH_take (i:=25) (v:=_) (by simp only [List.getElem?_toArray,List.getElem?_cons_succ,List.getElem?_cons_zero];rfl) (by kernel_rfl) (by kernel_rfl) (by kernel_rfl) (by intro _ _ _ h;exact h) (yieldsIf_load_mid (by rfl) 29 _ rfl U1 0 rfl (urlC u pu) _ (fun w h=>url_range h.1) Tryz.underlying29 rfl info_url) hHeld ?rs4x25
       try simp only [Act.put,List.setIfInBounds_toArray,List.set_cons_zero,List.set_cons_succ]
       refine' wpAnyH_take (i:=26) (v:=_) (by simp only [List.getElem?_toArray,List.getElem?_cons_succ,List.getElem?_cons_zero];rfl) (by kernel_rfl) (by kernel_rfl) (by kernel_rfl) (by intro _ _ _ h;exact h) (yieldsIf_load_mid (by rfl) 29 _ rfl WB 0 rfl (urlC ({ u with path:=[[111,116,104,101,114]],qry:=[113],hasQ:=true,usr:=[115,111,109,101,98,111,100,121] }) (.slice (some ⟨PB,0,none⟩) 1 1)) _ (fun w h=>url_range h.2.1) Tryz.underlying29 rfl info_url) hHeld ?rs4x26
       try simp only [Act.put,List.setIfInBounds_toArray,List.set_cons_zero,List.set_cons_succ]
       refine wpAnyH_ready (rs:=[27]) (by kernel_rfl) (by simp) ?_
       refine' AllReadyH.cons (by simp only [List.getElem?_toArray,List.getElem?_cons_succ,List.getElem?_cons_zero];rfl) (fun K hK=>?_) AllReadyH.nil
       go_simp
       refine (HSW.out (.slice (some ⟨PB,0,none⟩) 1 1) _ rfl).mono ?_
       rintro e wb ⟨rfl,hb⟩
       have HSe:=hid (HSd.out.below hb)
       have HBe:=hid (HBd.out.trans (hb.mono HBd.out.size))
       clear hb HSd HBd
       have HSd:=hid HSe.out
       have HBd:=hid HBe.out
       clear HSe HBe
       go_wp2_with fail
       refine hK.out _ _ ?_ (fun hHeld=>?_)
       ·exact HSd.out
       clear hK K
       try simp only [Act.put,List.setIfInBounds_toArray,List.set_cons_zero,List.set_cons_succ]
       refine' wpAnyH_take (i:=28) (v:=?_) (by simp only [List.getElem?_toArray,List.getElem?_cons_succ,List.getElem?_cons_zero];rfl) (by kernel_rfl) (by kernel_rfl) (by kernel_rfl) (by intro _ _ _ h;exact h) (Or.inl ⟨by rfl,?hy4x28⟩) hHeld ?rs4x28
       case hy4x28=>(intro w hSw;clear hSw;go_simp;try with_reducible rfl)
       try simp only [Act.put,List.setIfInBounds_toArray,List.set_cons_zero,List.set_cons_succ]
       refine' wpAnyH_take (i:=29) (v:=?_) (by simp only [List.getElem?_toArray,List.getElem?_cons_succ,List.getElem?_cons_zero];rfl) (by kernel_rfl) (by kernel_rfl) (by kernel_rfl) (by intro _ _ _ h;exact h) (Or.inl ⟨by rfl,?hy4x29⟩) hHeld ?rs4x29
       case hy4x29=>(intro w hSw;clear hSw;go_simp;try with_reducible rfl)
       try simp only [Act.put,List.setIfInBounds_toArray,List.set_cons_zero,List.set_cons_succ]
       refine wpAnyH_ready (rs:=[30]) (by kernel_rfl) (by simp) ?_
       refine' AllReadyH.cons (by simp only [List.getElem?_toArray,List.getElem?_cons_succ,List.getElem?_cons_zero];rfl) (fun K hK=>?_) AllReadyH.nil
       go_simp
       all_goals
        refine hK.out _ _ ?_ (fun hHeld=>?_)
        ·exact HSd.out
        clear hK K
        try simp only [Act.put,List.setIfInBounds_toArray,List.set_cons_zero,List.set_cons_succ]
        refine wpAnyH_done (by kernel_rfl) ?_ _
        go_wp2_with fail
        all_goals
         go_ret
         exact ⟨by first | rfl | (simp;done) | (simp [sameO_self];done) | simp_all,HBd.out⟩
end Go.Proofs.YtigfgloenjoeoaaGreatDoor
