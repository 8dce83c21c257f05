import Derived.Test.YtigfgloenjoeoaaGreatDoorLcBW
import Derived.Test.YtigfgloenjoeoaaGreatDoorLcBK
import Derived.Test.YtigfgloenjoeoaaGreatDoorLcAW
import Derived.Test.YtigfgloenjoeoaaGreatDoorLcBP
import Derived.Test.YtigfgloenjoeoaaGreatDoorLcBL
import Derived.Test.YtigfgloenjoeoaaGreatDoorLcAY
import Derived.Carry
import Derived.Test.YtigfgloenjoeoaaGreatDoorLcAC
set_option linter.unusedVariables false
set_option linter.unusedSimpArgs false
set_option maxRecDepth 20000
set_option maxHeartbeats 16000000
namespace Go.Proofs.YtigfgloenjoeoaaGreatDoor
open Go.RowKit Go.Shelf
abbrev OT:TypeId:=35
abbrev HstT:TypeId:=26
def hstC (h:HostN):List Value:=[.int .i64 h.1,.string (strOf h.2.1),.int .u32 (h.2.2.1:Int),u16v h.2.2.2 0,u16v h.2.2.2 1,u16v h.2.2.2 2,u16v h.2.2.2 3,u16v h.2.2.2 4,u16v h.2.2.2 5,u16v h.2.2.2 6,u16v h.2.2.2 7]
def orgC (o:OrgN):List Value:=[.string (strOf o.1),.int .i64 o.2.1.1,.string (strOf o.2.1.2.1),.int .u32 (o.2.1.2.2.1:Int),u16v o.2.1.2.2.2 0,u16v o.2.1.2.2.2 1,u16v o.2.1.2.2.2 2,u16v o.2.1.2.2.2 3,u16v o.2.1.2.2.2 4,u16v o.2.1.2.2.2 5,u16v o.2.1.2.2.2 6,u16v o.2.1.2.2.2 7,.int .i64 o.2.2]
def orgV (o:OrgN):Value:=.agg (orgC o).toArray
theorem info_org:(Tryz.prog.info? OT).map (·.size)=some 13:=by kernel_rfl
theorem info_hst:(Tryz.prog.info? HstT).map (·.size)=some 11:=by kernel_rfl
theorem org_range {w:World} {R:Nat} {o:OrgN} (h:Bc OT w R (orgC o)):w.rangeAt R 0 (orgC o):=fun j v hv=>by rw [Nat.zero_add];exact (h.cell j hv).1
theorem org_load {w:World} {R:Nat} {o:OrgN} (h:Bc OT w R (orgC o)):(loadVar OT ⟨R,0,none⟩).run Tryz.prog w=.ok (orgV o) w :=
 run_loadVar_mid w R 0 OT (orgC o) _ (org_range h) Tryz.underlying35 rfl info_org
theorem org_there {w:World} {R:Nat} {o:OrgN} (h:Bc OT w R (orgC o)):w.there R 0 13:=fun j hj=>by
 obtain ⟨v,hv⟩:∃v,(orgC o)[j]? = some v:=⟨_,List.getElem?_eq_getElem (by show j < 13;exact hj)⟩
 have:=h.cell j hv
 rw [Nat.zero_add]
 exact ⟨by rw [this.1];rfl,this.2⟩
theorem bc_sets {t:TypeId} {R:Nat}:∀(l:List (Nat×Value)) (w:World) (xs:List Value),Bc t w R xs→Bc t (sets R l w) R (l.foldl (fun xs p=>xs.set p.1 p.2) xs)
 | [],_,_,h=>h
 | p::l,w,xs,h=>bc_sets l _ _ (h.set p.1 p.2)
theorem org_store {w:World} {B R:Nat} {o p:OrgN} (h:Bc OT w R (orgC o)) (hB:B≤R):Bc OT (w.setCells R 0 (orgC p)) R (orgC p)∧Below B w (w.setCells R 0 (orgC p)):=by
 rw [setCells_sets]
 refine ⟨?_,url_below hB _ _⟩
 have:=bc_sets (((orgC p).zipIdx 0).map fun p=>(p.2,p.1)) w _ h
 rw [foldl_zip _ _ _ (by show 0+13≤13;decide)] at this
 exact this
theorem two_new (w:World) (A C:Array Value) (t s:TypeId):((w.alloc (.cells A t)).alloc (.cells C s)).heap[w.heap.size]? = some (.cells A t)∧((w.alloc (.cells A t)).alloc (.cells C s)).heap[w.heap.size+1]? = some (.cells C s)∧Below w.heap.size w ((w.alloc (.cells A t)).alloc (.cells C s)):=by
 have e1:(w.alloc (.cells A t)).heap.size=w.heap.size+1:=by simp
 have h1:∀o,Below (w.heap.size+1) (w.alloc (.cells A t)) ((w.alloc (.cells A t)).alloc o):=fun o=>(Below.refl _ _).alloc (Nat.le_of_eq e1.symm) o
 refine ⟨((h1 _).block _ (Nat.lt_succ_self _)).trans (heap_alloc_new w _),?_,((Below.refl _ _).alloc (Nat.le_refl _) _).trans ((h1 _).mono (Nat.le_succ _))⟩
 have:=heap_alloc_new (w.alloc (.cells A t)) (.cells C s)
 rw [e1] at this
 exact this
def OrgPost (o:OrgN×Bool) (w:World) (e:Ending) (w':World):Prop:=e=.returned (.tuple #[orgV o.1,.bool o.2])∧Below w.heap.size w w'
theorem org_zero_one:(#[.string ⟨#[]⟩,.int .i64 0,.string ⟨#[]⟩,.int .u32 0,.int .u16 0,.int .u16 0,.int .u16 0,.int .u16 0,.int .u16 0,.int .u16 0,.int .u16 0,.int .u16 0,.int .i64 0]:Array Value).all (·.oneCell')=true:=all_oneCell_toArray (List.all_eq_true.1 (show (orgC org0).all (·.oneCell')=true from rfl))
theorem set13 {N k:Nat} {w X:World} {v0 v1 v2 v3 v4 v5 v6 v7 v8 v9 v10 v11 v12:Value} (h:Below N w X) (hk:N≤k):Below N w (((((((((((((X.setCell ⟨k,0,none⟩ v0).setCell ⟨k,1,none⟩ v1).setCell ⟨k,2,none⟩ v2).setCell ⟨k,3,none⟩ v3).setCell ⟨k,4,none⟩ v4).setCell ⟨k,5,none⟩ v5).setCell ⟨k,6,none⟩ v6).setCell ⟨k,7,none⟩ v7).setCell ⟨k,8,none⟩ v8).setCell ⟨k,9,none⟩ v9).setCell ⟨k,10,none⟩ v10).setCell ⟨k,11,none⟩ v11).setCell ⟨k,12,none⟩ v12) :=
 (((((((((((((h.setCell (p:=⟨k,0,none⟩) hk v0).setCell (p:=⟨k,1,none⟩) hk v1).setCell (p:=⟨k,2,none⟩) hk v2).setCell (p:=⟨k,3,none⟩) hk v3).setCell (p:=⟨k,4,none⟩) hk v4).setCell (p:=⟨k,5,none⟩) hk v5).setCell (p:=⟨k,6,none⟩) hk v6).setCell (p:=⟨k,7,none⟩) hk v7).setCell (p:=⟨k,8,none⟩) hk v8).setCell (p:=⟨k,9,none⟩) hk v9).setCell (p:=⟨k,10,none⟩) hk v10).setCell (p:=⟨k,11,none⟩) hk v11).setCell (p:=⟨k,12,none⟩) hk v12)
theorem newF {w wy:World} (hb:Below (w.alloc (.cells #[.string ⟨#[]⟩,.int .i64 0,.string ⟨#[]⟩,.int .u32 0,.int .u16 0,.int .u16 0,.int .u16 0,.int .u16 0,.int .u16 0,.int .u16 0,.int .u16 0,.int .u16 0,.int .i64 0] OT)).drew.heap.size (w.alloc (.cells #[.string ⟨#[]⟩,.int .i64 0,.string ⟨#[]⟩,.int .u32 0,.int .u16 0,.int .u16 0,.int .u16 0,.int .u16 0,.int .u16 0,.int .u16 0,.int .u16 0,.int .u16 0,.int .i64 0] OT)).drew wy):wy.cell? ⟨w.heap.size,0,none⟩=some (.string ⟨#[]⟩)∧wy.frozen? ⟨w.heap.size,0,none⟩=false∧wy.cell? ⟨w.heap.size,1,none⟩=some (.int .i64 0)∧wy.frozen? ⟨w.heap.size,1,none⟩=false∧wy.cell? ⟨w.heap.size,2,none⟩=some (.string ⟨#[]⟩)∧wy.frozen? ⟨w.heap.size,2,none⟩=false∧wy.cell? ⟨w.heap.size,3,none⟩=some (.int .u32 0)∧wy.frozen? ⟨w.heap.size,3,none⟩=false∧wy.cell? ⟨w.heap.size,4,none⟩=some (.int .u16 0)∧wy.frozen? ⟨w.heap.size,4,none⟩=false∧wy.cell? ⟨w.heap.size,5,none⟩=some (.int .u16 0)∧wy.frozen? ⟨w.heap.size,5,none⟩=false∧wy.cell? ⟨w.heap.size,6,none⟩=some (.int .u16 0)∧wy.frozen? ⟨w.heap.size,6,none⟩=false∧wy.cell? ⟨w.heap.size,7,none⟩=some (.int .u16 0)∧wy.frozen? ⟨w.heap.size,7,none⟩=false∧wy.cell? ⟨w.heap.size,8,none⟩=some (.int .u16 0)∧wy.frozen? ⟨w.heap.size,8,none⟩=false∧wy.cell? ⟨w.heap.size,9,none⟩=some (.int .u16 0)∧wy.frozen? ⟨w.heap.size,9,none⟩=false∧wy.cell? ⟨w.heap.size,10,none⟩=some (.int .u16 0)∧wy.frozen? ⟨w.heap.size,10,none⟩=false∧wy.cell? ⟨w.heap.size,11,none⟩=some (.int .u16 0)∧wy.frozen? ⟨w.heap.size,11,none⟩=false∧wy.cell? ⟨w.heap.size,12,none⟩=some (.int .i64 0)∧wy.frozen? ⟨w.heap.size,12,none⟩=false:=by
 have h0:Bc OT (w.alloc (.cells #[.string ⟨#[]⟩,.int .i64 0,.string ⟨#[]⟩,.int .u32 0,.int .u16 0,.int .u16 0,.int .u16 0,.int .u16 0,.int .u16 0,.int .u16 0,.int .u16 0,.int .u16 0,.int .i64 0] OT)).drew w.heap.size (orgC org0):=heap_alloc_new w _
 have h:=h0.below hb
 exact ⟨(h.cell 0 rfl).1,(h.cell 0 rfl).2,(h.cell 1 rfl).1,(h.cell 1 rfl).2,(h.cell 2 rfl).1,(h.cell 2 rfl).2,(h.cell 3 rfl).1,(h.cell 3 rfl).2,(h.cell 4 rfl).1,(h.cell 4 rfl).2,(h.cell 5 rfl).1,(h.cell 5 rfl).2,(h.cell 6 rfl).1,(h.cell 6 rfl).2,(h.cell 7 rfl).1,(h.cell 7 rfl).2,(h.cell 8 rfl).1,(h.cell 8 rfl).2,(h.cell 9 rfl).1,(h.cell 9 rfl).2,(h.cell 10 rfl).1,(h.cell 10 rfl).2,(h.cell 11 rfl).1,(h.cell 11 rfl).2,(h.cell 12 rfl).1,(h.cell 12 rfl).2⟩
theorem sorigin_calls (u:UrlN) (pv:Value) (w:World) (h1:u.sch.length≤100000) (h2:u.host.2.1.length≤100000) :
 Calls Tryz.prog 11 #[.agg (urlC u pv).toArray] w fun e w'=>OrgPost (originN u) w e w':=by
 obtain ⟨A,hA⟩:∃A,(urlC u pv).toArray=A:=⟨_,rfl⟩
 rw [hA]
 have HA:=hid hA
 clear hA
 have HSp:Hid (∀w,Calls Tryz.prog 25 #[.string (strOf u.sch)] w fun e w'=>e=.returned (.int .i64 (specialN u.sch:Int))∧w'=w):=hid (fun w=>uSpecial_calls (strOf u.sch) w)
 have HC1:=hid (fun w=>hclone_calls (strOf u.sch) w h1)
 have HC2:=hid (fun w=>hclone_calls (strOf u.host.2.1) w h2)
 have HO:Hid (originN u=if specialN u.sch=0∨u.hasHost=false then (org0,false) else ((u.sch,u.host,if u.port=-1 then (specialN u.sch:Int) else u.port),true)):=hid rfl
 generalize specialN u.sch=sp at *
 generalize originN u=O at *
 clear h1 h2
 go_enter Tryz.func11,Tryz.ntmps11
 go_upto_region 1 with fail
 have H2:=hid (two_new w A #[.string ⟨#[]⟩,.int .i64 0,.string ⟨#[]⟩,.int .u32 0,.int .u16 0,.int .u16 0,.int .u16 0,.int .u16 0,.int .u16 0,.int .u16 0,.int .u16 0,.int .u16 0,.int .i64 0] UT OT)
 generalize (w.alloc (.cells A UT)).alloc (.cells #[.string ⟨#[]⟩,.int .i64 0,.string ⟨#[]⟩,.int .u32 0,.int .u16 0,.int .u16 0,.int .u16 0,.int .u16 0,.int .u16 0,.int .u16 0,.int .u16 0,.int .u16 0,.int .i64 0] OT)=w2 at *
 obtain ⟨R,hR⟩:∃R,w.heap.size+1=R:=⟨_,rfl⟩
 rw [hR] at H2 ⊢
 obtain ⟨U,hU⟩:∃U,w.heap.size=U:=⟨_,rfl⟩
 have HUR:Hid (w.heap.size=U∧U≠R∧U≤R):=by refine ⟨hU,?_,?_⟩<;>omega
 rw [hU] at H2 ⊢
 clear hR hU
 have HUc:Hid (Bc UT w2 U (urlC u pv)):=by show _=_;rw [H2.out.1,HA.out]
 have HRc:Hid (Bc OT w2 R (orgC org0)):=H2.out.2.1
 have HBl:Hid (Below U w w2):=H2.out.2.2
 clear H2 HA
 have c0:=(HUc.out.cell 0 rfl).1
 have c3:=(HUc.out.cell 3 rfl).1
 have HT:=hid (org_there HRc.out)
 by_cases h0:sp=0
 ·subst h0
  have HX:Hid (O=(org0,false)):=by show _=_;rw [HO.out,if_pos (Or.inl rfl)]
  clear HO
  have HS:Hid (Bc OT (w2.setCells R 0 [.string ⟨#[]⟩,.int .i64 0,.string ⟨#[]⟩,.int .u32 0,.int .u16 0,.int .u16 0,.int .u16 0,.int .u16 0,.int .u16 0,.int .u16 0,.int .u16 0,.int .u16 0,.int .i64 0]) R (orgC org0)∧Below U w2 (w2.setCells R 0 [.string ⟨#[]⟩,.int .i64 0,.string ⟨#[]⟩,.int .u32 0,.int .u16 0,.int .u16 0,.int .u16 0,.int .u16 0,.int .u16 0,.int .u16 0,.int .u16 0,.int .u16 0,.int .i64 0])):=hid (org_store (p:=org0) HRc.out HUR.out.2.2)
  go_wp2_with fail
  refine (HSp.out _).mono ?_
  rintro e w1 ⟨rfl,hw⟩
  subst hw
  go_wp2_with (refine wpList_store_mid rfl 35 _ _ rfl R 0 #[.string ⟨#[]⟩,.int .i64 0,.string ⟨#[]⟩,.int .u32 0,.int .u16 0,.int .u16 0,.int .u16 0,.int .u16 0,.int .u16 0,.int .u16 0,.int .u16 0,.int .u16 0,.int .i64 0] rfl rfl HT.out info_org org_zero_one ?_;try simp only [List.toList_toArray];generalize World.setCells w1 R 0 _=w3 at *)
  refine bodyPost_ret (results_ct Tryz.results11 rfl (org_load HS.out.1) rfl) rfl ?_
  refine ⟨by rw [HX.out];rfl,?_⟩
  rw [HUR.out.1]
  exact HBl.out.trans HS.out.2
 ·have e0:((sp:Int)==0)=false:=beq_eq_false_iff_ne.2 (by omega)
  cases hh:u.hasHost
  ·have HX:Hid (O=(org0,false)):=by show _=_;rw [HO.out,if_pos (Or.inr hh)]
   rw [hh] at c3
   clear HO h0 hh
   have HS:Hid (Bc OT (w2.setCells R 0 [.string ⟨#[]⟩,.int .i64 0,.string ⟨#[]⟩,.int .u32 0,.int .u16 0,.int .u16 0,.int .u16 0,.int .u16 0,.int .u16 0,.int .u16 0,.int .u16 0,.int .u16 0,.int .i64 0]) R (orgC org0)∧Below U w2 (w2.setCells R 0 [.string ⟨#[]⟩,.int .i64 0,.string ⟨#[]⟩,.int .u32 0,.int .u16 0,.int .u16 0,.int .u16 0,.int .u16 0,.int .u16 0,.int .u16 0,.int .u16 0,.int .u16 0,.int .i64 0])):=hid (org_store (p:=org0) HRc.out HUR.out.2.2)
   go_wp2_with fail
   refine (HSp.out _).mono ?_
   rintro e w1 ⟨rfl,hw⟩
   subst hw
   go_wp2_with (refine wpList_store_mid rfl 35 _ _ rfl R 0 #[.string ⟨#[]⟩,.int .i64 0,.string ⟨#[]⟩,.int .u32 0,.int .u16 0,.int .u16 0,.int .u16 0,.int .u16 0,.int .u16 0,.int .u16 0,.int .u16 0,.int .u16 0,.int .i64 0] rfl rfl HT.out info_org org_zero_one ?_;try simp only [List.toList_toArray];generalize World.setCells w1 R 0 _=w3 at *)
   refine bodyPost_ret (results_ct Tryz.results11 rfl (org_load HS.out.1) rfl) rfl ?_
   refine ⟨by rw [HX.out];rfl,?_⟩
   rw [HUR.out.1]
   exact HBl.out.trans HS.out.2
  ·obtain ⟨p,hp⟩:∃p,(if u.port=-1 then (sp:Int) else u.port)=p:=⟨_,rfl⟩
   have HX:Hid (O=((u.sch,u.host,p),true)):=by show _=_;rw [HO.out,if_neg (by simp [h0,hh]),hp]
   rw [hh] at c3
   have HP:Hid ((((u.port==-1)=false)∧u.port=p)∨(((u.port==-1)=true)∧(sp:Int)=p)):=by
    by_cases h:u.port=-1
    ·rw [if_pos h] at hp;exact Or.inr ⟨by rw [h];rfl,hp⟩
    ·rw [if_neg h] at hp;exact Or.inl ⟨beq_eq_false_iff_ne.2 h,hp⟩
   clear HO h0 hh hp
   obtain ⟨y0,hy0⟩:∃y,u.host.2.2.2.getD 0 0=y:=⟨_,rfl⟩
   obtain ⟨y1,hy1⟩:∃y,u.host.2.2.2.getD 1 0=y:=⟨_,rfl⟩
   obtain ⟨y2,hy2⟩:∃y,u.host.2.2.2.getD 2 0=y:=⟨_,rfl⟩
   obtain ⟨y3,hy3⟩:∃y,u.host.2.2.2.getD 3 0=y:=⟨_,rfl⟩
   obtain ⟨y4,hy4⟩:∃y,u.host.2.2.2.getD 4 0=y:=⟨_,rfl⟩
   obtain ⟨y5,hy5⟩:∃y,u.host.2.2.2.getD 5 0=y:=⟨_,rfl⟩
   obtain ⟨y6,hy6⟩:∃y,u.host.2.2.2.getD 6 0=y:=⟨_,rfl⟩
   obtain ⟨y7,hy7⟩:∃y,u.host.2.2.2.getD 7 0=y:=⟨_,rfl⟩
   have HFs:Hid (∀w',Below w2.heap.size w2 w'→w'.cell? ⟨U,0,none⟩=some (.string (strOf u.sch))∧w'.cell? ⟨U,4,none⟩=some (.int .i64 u.host.1)∧w'.cell? ⟨U,5,none⟩=some (.string (strOf u.host.2.1))∧w'.cell? ⟨U,6,none⟩=some (.int .u32 (u.host.2.2.1:Int))∧w'.cell? ⟨U,7,none⟩=some (.int .u16 (y0:Int))∧w'.cell? ⟨U,8,none⟩=some (.int .u16 (y1:Int))∧w'.cell? ⟨U,9,none⟩=some (.int .u16 (y2:Int))∧w'.cell? ⟨U,10,none⟩=some (.int .u16 (y3:Int))∧w'.cell? ⟨U,11,none⟩=some (.int .u16 (y4:Int))∧w'.cell? ⟨U,12,none⟩=some (.int .u16 (y5:Int))∧w'.cell? ⟨U,13,none⟩=some (.int .u16 (y6:Int))∧w'.cell? ⟨U,14,none⟩=some (.int .u16 (y7:Int))∧w'.cell? ⟨U,15,none⟩=some (.int .i64 u.port)):=by
    intro w' hb
    have h:=HUc.out.below hb
    exact ⟨(h.cell 0 rfl).1,(h.cell 4 rfl).1,(h.cell 5 rfl).1,(h.cell 6 rfl).1,by rw [← hy0];exact (h.cell 7 rfl).1,by rw [← hy1];exact (h.cell 8 rfl).1,by rw [← hy2];exact (h.cell 9 rfl).1,by rw [← hy3];exact (h.cell 10 rfl).1,by rw [← hy4];exact (h.cell 11 rfl).1,by rw [← hy5];exact (h.cell 12 rfl).1,by rw [← hy6];exact (h.cell 13 rfl).1,by rw [← hy7];exact (h.cell 14 rfl).1,(h.cell 15 rfl).1⟩
   have HY:Hid (u.host.2.2.2.getD 0 0=y0∧u.host.2.2.2.getD 1 0=y1∧u.host.2.2.2.getD 2 0=y2∧u.host.2.2.2.getD 3 0=y3∧u.host.2.2.2.getD 4 0=y4∧u.host.2.2.2.getD 5 0=y5∧u.host.2.2.2.getD 6 0=y6∧u.host.2.2.2.getD 7 0=y7):=⟨hy0,hy1,hy2,hy3,hy4,hy5,hy6,hy7⟩
   have HUc0:=HUc
   clear HUc hy0 hy1 hy2 hy3 hy4 hy5 hy6 hy7
   go_upto_region 4 with (refine (HSp.out _).mono ?_;rintro e w1 ⟨rfl,hw⟩;subst hw)
   have HN:Hid (∃N,w1.heap.size=N):=⟨_,rfl⟩
   go_region_held3 (fun w'=>w'.cell? ⟨U,0,none⟩=some (.string (strOf u.sch))∧w'.cell? ⟨U,4,none⟩=some (.int .i64 u.host.1)∧w'.cell? ⟨U,5,none⟩=some (.string (strOf u.host.2.1))∧w'.cell? ⟨U,6,none⟩=some (.int .u32 (u.host.2.2.1:Int))∧w'.cell? ⟨U,7,none⟩=some (.int .u16 (y0:Int))∧w'.cell? ⟨U,8,none⟩=some (.int .u16 (y1:Int))∧w'.cell? ⟨U,9,none⟩=some (.int .u16 (y2:Int))∧w'.cell? ⟨U,10,none⟩=some (.int .u16 (y3:Int))∧w'.cell? ⟨U,11,none⟩=some (.int .u16 (y4:Int))∧w'.cell? ⟨U,12,none⟩=some (.int .u16 (y5:Int))∧w'.cell? ⟨U,13,none⟩=some (.int .u16 (y6:Int))∧w'.cell? ⟨U,14,none⟩=some (.int .u16 (y7:Int))∧w'.cell? ⟨U,15,none⟩=some (.int .i64 u.port)) ((refine HFs.out _ ?_;(try with_reducible refine set13 ?_ ?_);(repeat first
    | exact Below.refl _ _
    | with_reducible refine Below.drew ?_
    | with_reducible refine Below.alloc ?_ ?_ _
    | refine Below.trans ?_ (hby.mono ?_)
    | exact Nat.le_refl _
    | (simp (config:={ failIfUnchanged:=false }) only [World.size_alloc,World.size_drew,World.size_setCell];omega)
    | (have hys:=hby.size;simp (config:={ failIfUnchanged:=false }) only [World.size_alloc,World.size_drew,World.size_setCell] at hys ⊢;omega)))) ((go_at_call 26;refine (HC1.out _).mono ?_;rintro e wy ⟨rfl,hby⟩;first | (have hbz:Below (w1.alloc (.cells #[.string ⟨#[]⟩,.int .i64 0,.string ⟨#[]⟩,.int .u32 0,.int .u16 0,.int .u16 0,.int .u16 0,.int .u16 0,.int .u16 0,.int .u16 0,.int .u16 0,.int .u16 0,.int .i64 0] OT)).drew.heap.size (w1.alloc (.cells #[.string ⟨#[]⟩,.int .i64 0,.string ⟨#[]⟩,.int .u32 0,.int .u16 0,.int .u16 0,.int .u16 0,.int .u16 0,.int .u16 0,.int .u16 0,.int .u16 0,.int .u16 0,.int .i64 0] OT)).drew wy:=(by with_reducible assumption);have hnf:=newF hbz;clear hbz;obtain ⟨nc0,nf0,nc1,nf1,nc2,nf2,nc3,nf3,nc4,nf4,nc5,nf5,nc6,nf6,nc7,nf7,nc8,nf8,nc9,nf9,nc10,nf10,nc11,nf11,nc12,nf12⟩:=hnf) | skip))
   ·have HNx:Hid (Bc OT (wy.alloc (.cells #[.string (strOf u.sch),.int .i64 u.host.1,.string (strOf u.host.2.1),.int .u32 (u.host.2.2.1:Int),.int .u16 (y0:Int),.int .u16 (y1:Int),.int .u16 (y2:Int),.int .u16 (y3:Int),.int .u16 (y4:Int),.int .u16 (y5:Int),.int .u16 (y6:Int),.int .u16 (y7:Int),.int .i64 u.port] OT)) wy.heap.size [.string (strOf u.sch),.int .i64 u.host.1,.string (strOf u.host.2.1),.int .u32 (u.host.2.2.1:Int),.int .u16 (y0:Int),.int .u16 (y1:Int),.int .u16 (y2:Int),.int .u16 (y3:Int),.int .u16 (y4:Int),.int .u16 (y5:Int),.int .u16 (y6:Int),.int .u16 (y7:Int),.int .i64 u.port]):=hid (heap_alloc_new wy _)
    have HUx:Hid (Bc UT (wy.alloc (.cells #[.string (strOf u.sch),.int .i64 u.host.1,.string (strOf u.host.2.1),.int .u32 (u.host.2.2.1:Int),.int .u16 (y0:Int),.int .u16 (y1:Int),.int .u16 (y2:Int),.int .u16 (y3:Int),.int .u16 (y4:Int),.int .u16 (y5:Int),.int .u16 (y6:Int),.int .u16 (y7:Int),.int .i64 u.port] OT)) U (urlC u pv)):=hid (HUc0.out.below ((((Below.refl _ _).drew).trans hby).alloc (by have:=hby.size;simpa using this) (.cells #[.string (strOf u.sch),.int .i64 u.host.1,.string (strOf u.host.2.1),.int .u32 (u.host.2.2.1:Int),.int .u16 (y0:Int),.int .u16 (y1:Int),.int .u16 (y2:Int),.int .u16 (y3:Int),.int .u16 (y4:Int),.int .u16 (y5:Int),.int .u16 (y6:Int),.int .u16 (y7:Int),.int .i64 u.port] OT)))
    have HRx:Hid (Bc OT (wy.alloc (.cells #[.string (strOf u.sch),.int .i64 u.host.1,.string (strOf u.host.2.1),.int .u32 (u.host.2.2.1:Int),.int .u16 (y0:Int),.int .u16 (y1:Int),.int .u16 (y2:Int),.int .u16 (y3:Int),.int .u16 (y4:Int),.int .u16 (y5:Int),.int .u16 (y6:Int),.int .u16 (y7:Int),.int .i64 u.port] OT)) R (orgC org0)):=hid (HRc.out.below ((((Below.refl _ _).drew).trans hby).alloc (by have:=hby.size;simpa using this) (.cells #[.string (strOf u.sch),.int .i64 u.host.1,.string (strOf u.host.2.1),.int .u32 (u.host.2.2.1:Int),.int .u16 (y0:Int),.int .u16 (y1:Int),.int .u16 (y2:Int),.int .u16 (y3:Int),.int .u16 (y4:Int),.int .u16 (y5:Int),.int .u16 (y6:Int),.int .u16 (y7:Int),.int .i64 u.port] OT)))
    have HBx:Hid (Below U w (wy.alloc (.cells #[.string (strOf u.sch),.int .i64 u.host.1,.string (strOf u.host.2.1),.int .u32 (u.host.2.2.1:Int),.int .u16 (y0:Int),.int .u16 (y1:Int),.int .u16 (y2:Int),.int .u16 (y3:Int),.int .u16 (y4:Int),.int .u16 (y5:Int),.int .u16 (y6:Int),.int .u16 (y7:Int),.int .i64 u.port] OT))):=hid (HBl.out.trans (Below.mono ((((Below.refl _ _).drew).trans hby).alloc (by have:=hby.size;simpa using this) (.cells #[.string (strOf u.sch),.int .i64 u.host.1,.string (strOf u.host.2.1),.int .u32 (u.host.2.2.1:Int),.int .u16 (y0:Int),.int .u16 (y1:Int),.int .u16 (y2:Int),.int .u16 (y3:Int),.int .u16 (y4:Int),.int .u16 (y5:Int),.int .u16 (y6:Int),.int .u16 (y7:Int),.int .i64 u.port] OT)) (Nat.le_of_lt HUc0.out.lt)))
    have HNs:Hid (U < w1.heap.size∧R < w1.heap.size∧w1.heap.size≤wy.heap.size):=hid ⟨HUc0.out.lt,HRc.out.lt,by have:=hby.size;simpa using this⟩
    clear hby
    generalize (wy.alloc (.cells #[.string (strOf u.sch),.int .i64 u.host.1,.string (strOf u.host.2.1),.int .u32 (u.host.2.2.1:Int),.int .u16 (y0:Int),.int .u16 (y1:Int),.int .u16 (y2:Int),.int .u16 (y3:Int),.int .u16 (y4:Int),.int .u16 (y5:Int),.int .u16 (y6:Int),.int .u16 (y7:Int),.int .i64 u.port] OT))=wx at *
    generalize wy.heap.size=N at *
    have HNR:Hid (R≠N):=by have h:=HNs.out;show _≠_;omega
    have HUN:Hid (U≤N):=by have h:=HNs.out;show _≤_;omega
    have x5:=(HUx.out.cell 5 rfl).1
    go_wp2_with fail
    refine (HC2.out _).mono ?_
    rintro e wz ⟨rfl,hbz⟩
    have HNz:=hid (HNx.out.below hbz)
    have HRz:=hid (HRx.out.below hbz)
    have HBz:=hid (HBx.out.trans (hbz.mono (by rw [← HUR.out.1];exact HBx.out.size)))
    clear hbz x5
    have HNz2:=hid (HNz.out.set 2 (.string (strOf u.host.2.1)))
    have HRz2:Hid (Bc OT (wz.setCell ⟨N,2,none⟩ (.string (strOf u.host.2.1))) R (orgC org0)):=hid (HRz.out.kept (heap_setCell_other wz _ _ _ HNR.out))
    have HBz2:Hid (Below U w (wz.setCell ⟨N,2,none⟩ (.string (strOf u.host.2.1)))):=hid (HBz.out.setCell (p:=⟨N,2,none⟩) HUN.out _)
    have n2:=(HNz.out.cell 2 rfl).1
    have m2:=(HNz.out.cell 2 rfl).2
    have n12:=(HNz2.out.cell 12 rfl).1
    have m12:=(HNz2.out.cell 12 rfl).2
    clear HNz HRz HBz HNx HRx HBx HUx
    rcases HP.out with ⟨e1,hp⟩ | ⟨e1,hp⟩
    ·subst hp
     clear HP
     go_upto_region 8 with fail
     try clear n2
     try clear m2
     try clear n12
     try clear m12
     generalize wz.setCell ⟨N,2,none⟩ (.string (strOf u.host.2.1))=wv at *
     have HT:=hid (org_there HRz2.out)
     have HS:Hid (Bc OT (wv.setCells R 0 [.string (strOf u.sch),.int .i64 u.host.1,.string (strOf u.host.2.1),.int .u32 (u.host.2.2.1:Int),.int .u16 (y0:Int),.int .u16 (y1:Int),.int .u16 (y2:Int),.int .u16 (y3:Int),.int .u16 (y4:Int),.int .u16 (y5:Int),.int .u16 (y6:Int),.int .u16 (y7:Int),.int .i64 u.port]) R (orgC (u.sch,u.host,u.port))∧Below U wv (wv.setCells R 0 [.string (strOf u.sch),.int .i64 u.host.1,.string (strOf u.host.2.1),.int .u32 (u.host.2.2.1:Int),.int .u16 (y0:Int),.int .u16 (y1:Int),.int .u16 (y2:Int),.int .u16 (y3:Int),.int .u16 (y4:Int),.int .u16 (y5:Int),.int .u16 (y6:Int),.int .u16 (y7:Int),.int .i64 u.port])):=by
      have:=org_store (p:=(u.sch,u.host,u.port)) HRz2.out HUR.out.2.2
      have hy:=HY.out
      simp only [orgC,u16v,hy] at this ⊢
      exact this
     have HLd:Hid (wv.rangeAt N 0 [.string (strOf u.sch),.int .i64 u.host.1,.string (strOf u.host.2.1),.int .u32 (u.host.2.2.1:Int),.int .u16 (y0:Int),.int .u16 (y1:Int),.int .u16 (y2:Int),.int .u16 (y3:Int),.int .u16 (y4:Int),.int .u16 (y5:Int),.int .u16 (y6:Int),.int .u16 (y7:Int),.int .i64 u.port]):=hid (fun j v hv=>by rw [Nat.zero_add];exact (HNz2.out.cell j hv).1)
     have HO1:Hid ((#[.string (strOf u.sch),.int .i64 u.host.1,.string (strOf u.host.2.1),.int .u32 (u.host.2.2.1:Int),.int .u16 (y0:Int),.int .u16 (y1:Int),.int .u16 (y2:Int),.int .u16 (y3:Int),.int .u16 (y4:Int),.int .u16 (y5:Int),.int .u16 (y6:Int),.int .u16 (y7:Int),.int .i64 u.port]:Array Value).all (·.oneCell')=true):=hid (all_oneCell_toArray (List.all_eq_true.1 rfl))
     go_wp2_with (first | refine wpList_load_mid rfl 35 _ rfl N 0 rfl [.string (strOf u.sch),.int .i64 u.host.1,.string (strOf u.host.2.1),.int .u32 (u.host.2.2.1:Int),.int .u16 (y0:Int),.int .u16 (y1:Int),.int .u16 (y2:Int),.int .u16 (y3:Int),.int .u16 (y4:Int),.int .u16 (y5:Int),.int .u16 (y6:Int),.int .u16 (y7:Int),.int .i64 u.port] _ HLd.out Tryz.underlying35 rfl info_org ?_ | (refine wpList_store_mid rfl 35 _ _ rfl R 0 #[.string (strOf u.sch),.int .i64 u.host.1,.string (strOf u.host.2.1),.int .u32 (u.host.2.2.1:Int),.int .u16 (y0:Int),.int .u16 (y1:Int),.int .u16 (y2:Int),.int .u16 (y3:Int),.int .u16 (y4:Int),.int .u16 (y5:Int),.int .u16 (y6:Int),.int .u16 (y7:Int),.int .i64 u.port] rfl rfl HT.out info_org HO1.out ?_;try simp only [List.toList_toArray];generalize World.setCells wv R 0 _=w3 at *))
     refine bodyPost_ret (results_ct Tryz.results11 rfl (org_load HS.out.1) rfl) rfl ?_
     refine ⟨by rw [HX.out];rfl,?_⟩
     rw [HUR.out.1]
     exact HBz2.out.trans HS.out.2
    ·subst hp
     clear HP
     have HNz3:=hid (HNz2.out.set 12 (.int .i64 (sp:Int)))
     have HRz3:=hid (HRz2.out.kept (heap_setCell_other _ ⟨N,12,none⟩ _ (.int .i64 (sp:Int)) HNR.out))
     have HBz3:=hid (HBz2.out.setCell (p:=⟨N,12,none⟩) HUN.out (.int .i64 (sp:Int)))
     go_upto_region 8 with fail
     try clear n2
     try clear m2
     try clear n12
     try clear m12
     clear HNz2 HRz2 HBz2
     generalize (wz.setCell ⟨N,2,none⟩ (.string (strOf u.host.2.1))).setCell ⟨N,12,none⟩ (.int .i64 (sp:Int))=wv at *
     have HT:=hid (org_there HRz3.out)
     have HS:Hid (Bc OT (wv.setCells R 0 [.string (strOf u.sch),.int .i64 u.host.1,.string (strOf u.host.2.1),.int .u32 (u.host.2.2.1:Int),.int .u16 (y0:Int),.int .u16 (y1:Int),.int .u16 (y2:Int),.int .u16 (y3:Int),.int .u16 (y4:Int),.int .u16 (y5:Int),.int .u16 (y6:Int),.int .u16 (y7:Int),.int .i64 (sp:Int)]) R (orgC (u.sch,u.host,(sp:Int)))∧Below U wv (wv.setCells R 0 [.string (strOf u.sch),.int .i64 u.host.1,.string (strOf u.host.2.1),.int .u32 (u.host.2.2.1:Int),.int .u16 (y0:Int),.int .u16 (y1:Int),.int .u16 (y2:Int),.int .u16 (y3:Int),.int .u16 (y4:Int),.int .u16 (y5:Int),.int .u16 (y6:Int),.int .u16 (y7:Int),.int .i64 (sp:Int)])):=by
      have:=org_store (p:=(u.sch,u.host,(sp:Int))) HRz3.out HUR.out.2.2
      have hy:=HY.out
      simp only [orgC,u16v,hy] at this ⊢
      exact this
     have HLd:Hid (wv.rangeAt N 0 [.string (strOf u.sch),.int .i64 u.host.1,.string (strOf u.host.2.1),.int .u32 (u.host.2.2.1:Int),.int .u16 (y0:Int),.int .u16 (y1:Int),.int .u16 (y2:Int),.int .u16 (y3:Int),.int .u16 (y4:Int),.int .u16 (y5:Int),.int .u16 (y6:Int),.int .u16 (y7:Int),.int .i64 (sp:Int)]):=hid (fun j v hv=>by rw [Nat.zero_add];exact (HNz3.out.cell j hv).1)
     have HO1:Hid ((#[.string (strOf u.sch),.int .i64 u.host.1,.string (strOf u.host.2.1),.int .u32 (u.host.2.2.1:Int),.int .u16 (y0:Int),.int .u16 (y1:Int),.int .u16 (y2:Int),.int .u16 (y3:Int),.int .u16 (y4:Int),.int .u16 (y5:Int),.int .u16 (y6:Int),.int .u16 (y7:Int),.int .i64 (sp:Int)]:Array Value).all (·.oneCell')=true):=hid (all_oneCell_toArray (List.all_eq_true.1 rfl))
     go_wp2_with (first | refine wpList_load_mid rfl 35 _ rfl N 0 rfl [.string (strOf u.sch),.int .i64 u.host.1,.string (strOf u.host.2.1),.int .u32 (u.host.2.2.1:Int),.int .u16 (y0:Int),.int .u16 (y1:Int),.int .u16 (y2:Int),.int .u16 (y3:Int),.int .u16 (y4:Int),.int .u16 (y5:Int),.int .u16 (y6:Int),.int .u16 (y7:Int),.int .i64 (sp:Int)] _ HLd.out Tryz.underlying35 rfl info_org ?_ | (refine wpList_store_mid rfl 35 _ _ rfl R 0 #[.string (strOf u.sch),.int .i64 u.host.1,.string (strOf u.host.2.1),.int .u32 (u.host.2.2.1:Int),.int .u16 (y0:Int),.int .u16 (y1:Int),.int .u16 (y2:Int),.int .u16 (y3:Int),.int .u16 (y4:Int),.int .u16 (y5:Int),.int .u16 (y6:Int),.int .u16 (y7:Int),.int .i64 (sp:Int)] rfl rfl HT.out info_org HO1.out ?_;try simp only [List.toList_toArray];generalize World.setCells wv R 0 _=w3 at *))
     refine bodyPost_ret (results_ct Tryz.results11 rfl (org_load HS.out.1) rfl) rfl ?_
     refine ⟨by rw [HX.out];rfl,?_⟩
     rw [HUR.out.1]
     exact HBz3.out.trans HS.out.2
   ·have HN0:Hid (Bc OT wy w1.heap.size (orgC org0)):=hid (Bc.below (w:=(w1.alloc (.cells #[.string ⟨#[]⟩,.int .i64 0,.string ⟨#[]⟩,.int .u32 0,.int .u16 0,.int .u16 0,.int .u16 0,.int .u16 0,.int .u16 0,.int .u16 0,.int .u16 0,.int .u16 0,.int .i64 0] OT)).drew) (heap_alloc_new w1 _) hby)
    have HNx:Hid (Bc OT (((((((((((((wy.setCell ⟨w1.heap.size,0,none⟩ (.string (strOf u.sch))).setCell ⟨w1.heap.size,1,none⟩ (.int .i64 u.host.1)).setCell ⟨w1.heap.size,2,none⟩ (.string (strOf u.host.2.1))).setCell ⟨w1.heap.size,3,none⟩ (.int .u32 (u.host.2.2.1:Int))).setCell ⟨w1.heap.size,4,none⟩ (.int .u16 (y0:Int))).setCell ⟨w1.heap.size,5,none⟩ (.int .u16 (y1:Int))).setCell ⟨w1.heap.size,6,none⟩ (.int .u16 (y2:Int))).setCell ⟨w1.heap.size,7,none⟩ (.int .u16 (y3:Int))).setCell ⟨w1.heap.size,8,none⟩ (.int .u16 (y4:Int))).setCell ⟨w1.heap.size,9,none⟩ (.int .u16 (y5:Int))).setCell ⟨w1.heap.size,10,none⟩ (.int .u16 (y6:Int))).setCell ⟨w1.heap.size,11,none⟩ (.int .u16 (y7:Int))).setCell ⟨w1.heap.size,12,none⟩ (.int .i64 u.port)) w1.heap.size [.string (strOf u.sch),.int .i64 u.host.1,.string (strOf u.host.2.1),.int .u32 (u.host.2.2.1:Int),.int .u16 (y0:Int),.int .u16 (y1:Int),.int .u16 (y2:Int),.int .u16 (y3:Int),.int .u16 (y4:Int),.int .u16 (y5:Int),.int .u16 (y6:Int),.int .u16 (y7:Int),.int .i64 u.port]):=hid (((((((((((((HN0.out.set 0 (.string (strOf u.sch))).set 1 (.int .i64 u.host.1)).set 2 (.string (strOf u.host.2.1))).set 3 (.int .u32 (u.host.2.2.1:Int))).set 4 (.int .u16 (y0:Int))).set 5 (.int .u16 (y1:Int))).set 6 (.int .u16 (y2:Int))).set 7 (.int .u16 (y3:Int))).set 8 (.int .u16 (y4:Int))).set 9 (.int .u16 (y5:Int))).set 10 (.int .u16 (y6:Int))).set 11 (.int .u16 (y7:Int))).set 12 (.int .i64 u.port))
    have HUx:Hid (Bc UT (((((((((((((wy.setCell ⟨w1.heap.size,0,none⟩ (.string (strOf u.sch))).setCell ⟨w1.heap.size,1,none⟩ (.int .i64 u.host.1)).setCell ⟨w1.heap.size,2,none⟩ (.string (strOf u.host.2.1))).setCell ⟨w1.heap.size,3,none⟩ (.int .u32 (u.host.2.2.1:Int))).setCell ⟨w1.heap.size,4,none⟩ (.int .u16 (y0:Int))).setCell ⟨w1.heap.size,5,none⟩ (.int .u16 (y1:Int))).setCell ⟨w1.heap.size,6,none⟩ (.int .u16 (y2:Int))).setCell ⟨w1.heap.size,7,none⟩ (.int .u16 (y3:Int))).setCell ⟨w1.heap.size,8,none⟩ (.int .u16 (y4:Int))).setCell ⟨w1.heap.size,9,none⟩ (.int .u16 (y5:Int))).setCell ⟨w1.heap.size,10,none⟩ (.int .u16 (y6:Int))).setCell ⟨w1.heap.size,11,none⟩ (.int .u16 (y7:Int))).setCell ⟨w1.heap.size,12,none⟩ (.int .i64 u.port)) U (urlC u pv)):=hid (HUc0.out.below (set13 (k:=w1.heap.size) ((((Below.refl _ _).alloc (Nat.le_refl _) (.cells #[.string ⟨#[]⟩,.int .i64 0,.string ⟨#[]⟩,.int .u32 0,.int .u16 0,.int .u16 0,.int .u16 0,.int .u16 0,.int .u16 0,.int .u16 0,.int .u16 0,.int .u16 0,.int .i64 0] OT)).drew).trans (hby.mono (by simp))) (Nat.le_refl _)))
    have HRx:Hid (Bc OT (((((((((((((wy.setCell ⟨w1.heap.size,0,none⟩ (.string (strOf u.sch))).setCell ⟨w1.heap.size,1,none⟩ (.int .i64 u.host.1)).setCell ⟨w1.heap.size,2,none⟩ (.string (strOf u.host.2.1))).setCell ⟨w1.heap.size,3,none⟩ (.int .u32 (u.host.2.2.1:Int))).setCell ⟨w1.heap.size,4,none⟩ (.int .u16 (y0:Int))).setCell ⟨w1.heap.size,5,none⟩ (.int .u16 (y1:Int))).setCell ⟨w1.heap.size,6,none⟩ (.int .u16 (y2:Int))).setCell ⟨w1.heap.size,7,none⟩ (.int .u16 (y3:Int))).setCell ⟨w1.heap.size,8,none⟩ (.int .u16 (y4:Int))).setCell ⟨w1.heap.size,9,none⟩ (.int .u16 (y5:Int))).setCell ⟨w1.heap.size,10,none⟩ (.int .u16 (y6:Int))).setCell ⟨w1.heap.size,11,none⟩ (.int .u16 (y7:Int))).setCell ⟨w1.heap.size,12,none⟩ (.int .i64 u.port)) R (orgC org0)):=hid (HRc.out.below (set13 (k:=w1.heap.size) ((((Below.refl _ _).alloc (Nat.le_refl _) (.cells #[.string ⟨#[]⟩,.int .i64 0,.string ⟨#[]⟩,.int .u32 0,.int .u16 0,.int .u16 0,.int .u16 0,.int .u16 0,.int .u16 0,.int .u16 0,.int .u16 0,.int .u16 0,.int .i64 0] OT)).drew).trans (hby.mono (by simp))) (Nat.le_refl _)))
    have HBx:Hid (Below U w (((((((((((((wy.setCell ⟨w1.heap.size,0,none⟩ (.string (strOf u.sch))).setCell ⟨w1.heap.size,1,none⟩ (.int .i64 u.host.1)).setCell ⟨w1.heap.size,2,none⟩ (.string (strOf u.host.2.1))).setCell ⟨w1.heap.size,3,none⟩ (.int .u32 (u.host.2.2.1:Int))).setCell ⟨w1.heap.size,4,none⟩ (.int .u16 (y0:Int))).setCell ⟨w1.heap.size,5,none⟩ (.int .u16 (y1:Int))).setCell ⟨w1.heap.size,6,none⟩ (.int .u16 (y2:Int))).setCell ⟨w1.heap.size,7,none⟩ (.int .u16 (y3:Int))).setCell ⟨w1.heap.size,8,none⟩ (.int .u16 (y4:Int))).setCell ⟨w1.heap.size,9,none⟩ (.int .u16 (y5:Int))).setCell ⟨w1.heap.size,10,none⟩ (.int .u16 (y6:Int))).setCell ⟨w1.heap.size,11,none⟩ (.int .u16 (y7:Int))).setCell ⟨w1.heap.size,12,none⟩ (.int .i64 u.port))):=hid (HBl.out.trans (Below.mono (set13 (k:=w1.heap.size) ((((Below.refl _ _).alloc (Nat.le_refl _) (.cells #[.string ⟨#[]⟩,.int .i64 0,.string ⟨#[]⟩,.int .u32 0,.int .u16 0,.int .u16 0,.int .u16 0,.int .u16 0,.int .u16 0,.int .u16 0,.int .u16 0,.int .u16 0,.int .i64 0] OT)).drew).trans (hby.mono (by simp))) (Nat.le_refl _)) (Nat.le_of_lt HUc0.out.lt)))
    have HNs:Hid (U < w1.heap.size∧R < w1.heap.size∧w1.heap.size≤w1.heap.size):=hid ⟨HUc0.out.lt,HRc.out.lt,Nat.le_refl _⟩
    clear hby HN0
    try clear nf0
    generalize (((((((((((((wy.setCell ⟨w1.heap.size,0,none⟩ (.string (strOf u.sch))).setCell ⟨w1.heap.size,1,none⟩ (.int .i64 u.host.1)).setCell ⟨w1.heap.size,2,none⟩ (.string (strOf u.host.2.1))).setCell ⟨w1.heap.size,3,none⟩ (.int .u32 (u.host.2.2.1:Int))).setCell ⟨w1.heap.size,4,none⟩ (.int .u16 (y0:Int))).setCell ⟨w1.heap.size,5,none⟩ (.int .u16 (y1:Int))).setCell ⟨w1.heap.size,6,none⟩ (.int .u16 (y2:Int))).setCell ⟨w1.heap.size,7,none⟩ (.int .u16 (y3:Int))).setCell ⟨w1.heap.size,8,none⟩ (.int .u16 (y4:Int))).setCell ⟨w1.heap.size,9,none⟩ (.int .u16 (y5:Int))).setCell ⟨w1.heap.size,10,none⟩ (.int .u16 (y6:Int))).setCell ⟨w1.heap.size,11,none⟩ (.int .u16 (y7:Int))).setCell ⟨w1.heap.size,12,none⟩ (.int .i64 u.port))=wx at *
    generalize w1.heap.size=N at *
    have HNR:Hid (R≠N):=by have h:=HNs.out;show _≠_;omega
    have HUN:Hid (U≤N):=by have h:=HNs.out;show _≤_;omega
    have x5:=(HUx.out.cell 5 rfl).1
    go_wp2_with fail
    refine (HC2.out _).mono ?_
    rintro e wz ⟨rfl,hbz⟩
    have HNz:=hid (HNx.out.below hbz)
    have HRz:=hid (HRx.out.below hbz)
    have HBz:=hid (HBx.out.trans (hbz.mono (by rw [← HUR.out.1];exact HBx.out.size)))
    clear hbz x5
    have HNz2:=hid (HNz.out.set 2 (.string (strOf u.host.2.1)))
    have HRz2:Hid (Bc OT (wz.setCell ⟨N,2,none⟩ (.string (strOf u.host.2.1))) R (orgC org0)):=hid (HRz.out.kept (heap_setCell_other wz _ _ _ HNR.out))
    have HBz2:Hid (Below U w (wz.setCell ⟨N,2,none⟩ (.string (strOf u.host.2.1)))):=hid (HBz.out.setCell (p:=⟨N,2,none⟩) HUN.out _)
    have n2:=(HNz.out.cell 2 rfl).1
    have m2:=(HNz.out.cell 2 rfl).2
    have n12:=(HNz2.out.cell 12 rfl).1
    have m12:=(HNz2.out.cell 12 rfl).2
    clear HNz HRz HBz HNx HRx HBx HUx
    rcases HP.out with ⟨e1,hp⟩ | ⟨e1,hp⟩
    ·subst hp
     clear HP
     go_upto_region 8 with fail
     try clear n2
     try clear m2
     try clear n12
     try clear m12
     generalize wz.setCell ⟨N,2,none⟩ (.string (strOf u.host.2.1))=wv at *
     have HT:=hid (org_there HRz2.out)
     have HS:Hid (Bc OT (wv.setCells R 0 [.string (strOf u.sch),.int .i64 u.host.1,.string (strOf u.host.2.1),.int .u32 (u.host.2.2.1:Int),.int .u16 (y0:Int),.int .u16 (y1:Int),.int .u16 (y2:Int),.int .u16 (y3:Int),.int .u16 (y4:Int),.int .u16 (y5:Int),.int .u16 (y6:Int),.int .u16 (y7:Int),.int .i64 u.port]) R (orgC (u.sch,u.host,u.port))∧Below U wv (wv.setCells R 0 [.string (strOf u.sch),.int .i64 u.host.1,.string (strOf u.host.2.1),.int .u32 (u.host.2.2.1:Int),.int .u16 (y0:Int),.int .u16 (y1:Int),.int .u16 (y2:Int),.int .u16 (y3:Int),.int .u16 (y4:Int),.int .u16 (y5:Int),.int .u16 (y6:Int),.int .u16 (y7:Int),.int .i64 u.port])):=by
      have:=org_store (p:=(u.sch,u.host,u.port)) HRz2.out HUR.out.2.2
      have hy:=HY.out
      simp only [orgC,u16v,hy] at this ⊢
      exact this
     have HLd:Hid (wv.rangeAt N 0 [.string (strOf u.sch),.int .i64 u.host.1,.string (strOf u.host.2.1),.int .u32 (u.host.2.2.1:Int),.int .u16 (y0:Int),.int .u16 (y1:Int),.int .u16 (y2:Int),.int .u16 (y3:Int),.int .u16 (y4:Int),.int .u16 (y5:Int),.int .u16 (y6:Int),.int .u16 (y7:Int),.int .i64 u.port]):=hid (fun j v hv=>by rw [Nat.zero_add];exact (HNz2.out.cell j hv).1)
     have HO1:Hid ((#[.string (strOf u.sch),.int .i64 u.host.1,.string (strOf u.host.2.1),.int .u32 (u.host.2.2.1:Int),.int .u16 (y0:Int),.int .u16 (y1:Int),.int .u16 (y2:Int),.int .u16 (y3:Int),.int .u16 (y4:Int),.int .u16 (y5:Int),.int .u16 (y6:Int),.int .u16 (y7:Int),.int .i64 u.port]:Array Value).all (·.oneCell')=true):=hid (all_oneCell_toArray (List.all_eq_true.1 rfl))
     go_wp2_with (first | refine wpList_load_mid rfl 35 _ rfl N 0 rfl [.string (strOf u.sch),.int .i64 u.host.1,.string (strOf u.host.2.1),.int .u32 (u.host.2.2.1:Int),.int .u16 (y0:Int),.int .u16 (y1:Int),.int .u16 (y2:Int),.int .u16 (y3:Int),.int .u16 (y4:Int),.int .u16 (y5:Int),.int .u16 (y6:Int),.int .u16 (y7:Int),.int .i64 u.port] _ HLd.out Tryz.underlying35 rfl info_org ?_ | (refine wpList_store_mid rfl 35 _ _ rfl R 0 #[.string (strOf u.sch),.int .i64 u.host.1,.string (strOf u.host.2.1),.int .u32 (u.host.2.2.1:Int),.int .u16 (y0:Int),.int .u16 (y1:Int),.int .u16 (y2:Int),.int .u16 (y3:Int),.int .u16 (y4:Int),.int .u16 (y5:Int),.int .u16 (y6:Int),.int .u16 (y7:Int),.int .i64 u.port] rfl rfl HT.out info_org HO1.out ?_;try simp only [List.toList_toArray];generalize World.setCells wv R 0 _=w3 at *))
     refine bodyPost_ret (results_ct Tryz.results11 rfl (org_load HS.out.1) rfl) rfl ?_
     refine ⟨by rw [HX.out];rfl,?_⟩
     rw [HUR.out.1]
     exact HBz2.out.trans HS.out.2
    ·subst hp
     clear HP
     have HNz3:=hid (HNz2.out.set 12 (.int .i64 (sp:Int)))
     have HRz3:=hid (HRz2.out.kept (heap_setCell_other _ ⟨N,12,none⟩ _ (.int .i64 (sp:Int)) HNR.out))
     have HBz3:=hid (HBz2.out.setCell (p:=⟨N,12,none⟩) HUN.out (.int .i64 (sp:Int)))
     go_upto_region 8 with fail
     try clear n2
     try clear m2
     try clear n12
     try clear m12
     clear HNz2 HRz2 HBz2
     generalize (wz.setCell ⟨N,2,none⟩ (.string (strOf u.host.2.1))).setCell ⟨N,12,none⟩ (.int .i64 (sp:Int))=wv at *
     have HT:=hid (org_there HRz3.out)
     have HS:Hid (Bc OT (wv.setCells R 0 [.string (strOf u.sch),.int .i64 u.host.1,.string (strOf u.host.2.1),.int .u32 (u.host.2.2.1:Int),.int .u16 (y0:Int),.int .u16 (y1:Int),.int .u16 (y2:Int),.int .u16 (y3:Int),.int .u16 (y4:Int),.int .u16 (y5:Int),.int .u16 (y6:Int),.int .u16 (y7:Int),.int .i64 (sp:Int)]) R (orgC (u.sch,u.host,(sp:Int)))∧Below U wv (wv.setCells R 0 [.string (strOf u.sch),.int .i64 u.host.1,.string (strOf u.host.2.1),.int .u32 (u.host.2.2.1:Int),.int .u16 (y0:Int),.int .u16 (y1:Int),.int .u16 (y2:Int),.int .u16 (y3:Int),.int .u16 (y4:Int),.int .u16 (y5:Int),.int .u16 (y6:Int),.int .u16 (y7:Int),.int .i64 (sp:Int)])):=by
      have:=org_store (p:=(u.sch,u.host,(sp:Int))) HRz3.out HUR.out.2.2
      have hy:=HY.out
      simp only [orgC,u16v,hy] at this ⊢
      exact this
     have HLd:Hid (wv.rangeAt N 0 [.string (strOf u.sch),.int .i64 u.host.1,.string (strOf u.host.2.1),.int .u32 (u.host.2.2.1:Int),.int .u16 (y0:Int),.int .u16 (y1:Int),.int .u16 (y2:Int),.int .u16 (y3:Int),.int .u16 (y4:Int),.int .u16 (y5:Int),.int .u16 (y6:Int),.int .u16 (y7:Int),.int .i64 (sp:Int)]):=hid (fun j v hv=>by rw [Nat.zero_add];exact (HNz3.out.cell j hv).1)
     have HO1:Hid ((#[.string (strOf u.sch),.int .i64 u.host.1,.string (strOf u.host.2.1),.int .u32 (u.host.2.2.1:Int),.int .u16 (y0:Int),.int .u16 (y1:Int),.int .u16 (y2:Int),.int .u16 (y3:Int),.int .u16 (y4:Int),.int .u16 (y5:Int),.int .u16 (y6:Int),.int .u16 (y7:Int),.int .i64 (sp:Int)]:Array Value).all (·.oneCell')=true):=hid (all_oneCell_toArray (List.all_eq_true.1 rfl))
     go_wp2_with (first | refine wpList_load_mid rfl 35 _ rfl N 0 rfl [.string (strOf u.sch),.int .i64 u.host.1,.string (strOf u.host.2.1),.int .u32 (u.host.2.2.1:Int),.int .u16 (y0:Int),.int .u16 (y1:Int),.int .u16 (y2:Int),.int .u16 (y3:Int),.int .u16 (y4:Int),.int .u16 (y5:Int),.int .u16 (y6:Int),.int .u16 (y7:Int),.int .i64 (sp:Int)] _ HLd.out Tryz.underlying35 rfl info_org ?_ | (refine wpList_store_mid rfl 35 _ _ rfl R 0 #[.string (strOf u.sch),.int .i64 u.host.1,.string (strOf u.host.2.1),.int .u32 (u.host.2.2.1:Int),.int .u16 (y0:Int),.int .u16 (y1:Int),.int .u16 (y2:Int),.int .u16 (y3:Int),.int .u16 (y4:Int),.int .u16 (y5:Int),.int .u16 (y6:Int),.int .u16 (y7:Int),.int .i64 (sp:Int)] rfl rfl HT.out info_org HO1.out ?_;try simp only [List.toList_toArray];generalize World.setCells wv R 0 _=w3 at *))
     refine bodyPost_ret (results_ct Tryz.results11 rfl (org_load HS.out.1) rfl) rfl ?_
     refine ⟨by rw [HX.out];rfl,?_⟩
     rw [HUR.out.1]
     exact HBz3.out.trans HS.out.2
theorem new_org (w:World) (o:OrgN):Bc OT ((w.alloc (.cells #[.string ⟨#[]⟩,.int .i64 0,.string ⟨#[]⟩,.int .u32 0,.int .u16 0,.int .u16 0,.int .u16 0,.int .u16 0,.int .u16 0,.int .u16 0,.int .u16 0,.int .u16 0,.int .i64 0] OT)).setCells w.heap.size 0 (orgC o)) w.heap.size (orgC o)∧Below w.heap.size w ((w.alloc (.cells #[.string ⟨#[]⟩,.int .i64 0,.string ⟨#[]⟩,.int .u32 0,.int .u16 0,.int .u16 0,.int .u16 0,.int .u16 0,.int .u16 0,.int .u16 0,.int .u16 0,.int .u16 0,.int .i64 0] OT)).setCells w.heap.size 0 (orgC o)):=by
 have h:Bc OT (w.alloc (.cells #[.string ⟨#[]⟩,.int .i64 0,.string ⟨#[]⟩,.int .u32 0,.int .u16 0,.int .u16 0,.int .u16 0,.int .u16 0,.int .u16 0,.int .u16 0,.int .u16 0,.int .u16 0,.int .i64 0] OT)) w.heap.size (orgC org0):=heap_alloc_new w _
 have:=org_store (p:=o) h (Nat.le_refl _)
 exact ⟨this.1,(ballC w _).trans this.2⟩
theorem new_there (w:World):(w.alloc (.cells #[.string ⟨#[]⟩,.int .i64 0,.string ⟨#[]⟩,.int .u32 0,.int .u16 0,.int .u16 0,.int .u16 0,.int .u16 0,.int .u16 0,.int .u16 0,.int .u16 0,.int .u16 0,.int .i64 0] OT)).there w.heap.size 0 13:=org_there (o:=org0) (heap_alloc_new w _)
theorem org_one (o:OrgN):(orgC o).toArray.all (·.oneCell')=true:=all_oneCell_toArray (List.all_eq_true.1 rfl)
theorem ssite_calls (u:UrlN) (pv v:Value) (l:List (List UInt8)) (w:World) (h1:u.sch.length≤100000) (h2:u.host.2.1.length≤100000) (hv:SRowIp w v l) (hl:l.length≤1000) (hq:∀q∈l,q.length≤100000) :
 Calls Tryz.prog 13 #[.agg (urlC u pv).toArray,v] w fun e w'=>OrgPost (siteN u l) w e w':=by
 have HV:Hid (∀w',Below w.heap.size w w'→SRowIp w' v l):=fun w' hb=>hv.below hb
 obtain ⟨va,vcap,hve,-⟩:=hv
 subst hve
 obtain ⟨A,hA⟩:∃A,(urlC u pv).toArray=A:=⟨_,rfl⟩
 rw [hA]
 have HA:=hid hA
 clear hA
 have HOr:=hid (fun w=>sorigin_calls u pv w h1 h2)
 have HSi:Hid (siteN u l=if (originN u).2=true then (((originN u).1.1,nameN (originN u).1.2.1 l,0),true) else (org0,false)):=hid rfl
 have HZr:Hid ((originN u).2=false→(originN u).1=org0):=by
  intro h
  unfold originN at h ⊢
  split
  ·rfl
  ·rename_i h';rw [if_neg h'] at h;cases h
 have HNm:Hid ((originN u).1.2.1.2.1.length≤100000):=by
  show _≤_
  unfold originN
  split
  ·exact Nat.zero_le _
  ·exact h2
 generalize siteN u l=S at *
 generalize originN u=O' at *
 obtain ⟨⟨sch,⟨k,nm,fr,sx⟩,p⟩,ok⟩:=O'
 have HL:=hid hl
 have HQ:=hid hq
 clear h1 h2 hl hq
 go_enter Tryz.func13,Tryz.ntmps13
 go_upto_region 1 with fail
 have H2:=hid (two_new w A #[.string ⟨#[]⟩,.int .i64 0,.string ⟨#[]⟩,.int .u32 0,.int .u16 0,.int .u16 0,.int .u16 0,.int .u16 0,.int .u16 0,.int .u16 0,.int .u16 0,.int .u16 0,.int .i64 0] UT OT)
 generalize (w.alloc (.cells A UT)).alloc (.cells #[.string ⟨#[]⟩,.int .i64 0,.string ⟨#[]⟩,.int .u32 0,.int .u16 0,.int .u16 0,.int .u16 0,.int .u16 0,.int .u16 0,.int .u16 0,.int .u16 0,.int .u16 0,.int .i64 0] OT)=w2 at *
 obtain ⟨R,hR⟩:∃R,w.heap.size+1=R:=⟨_,rfl⟩
 rw [hR] at H2 ⊢
 obtain ⟨U,hU⟩:∃U,w.heap.size=U:=⟨_,rfl⟩
 have HUR:Hid (w.heap.size=U∧U≠R∧U≤R):=by refine ⟨hU,?_,?_⟩<;>omega
 rw [hU] at H2 HV ⊢
 clear hR hU
 have HUc:Hid (Bc UT w2 U (urlC u pv)):=by show _=_;rw [H2.out.1,HA.out]
 have HRc:Hid (Bc OT w2 R (orgC org0)):=H2.out.2.1
 have HBl:Hid (Below U w w2):=H2.out.2.2
 have HU2:=hid (url_range HUc.out)
 clear H2 HA
 go_wp2_with (refine wpList_load_mid rfl 29 _ rfl U 0 rfl (urlC u pv) _ HU2.out Tryz.underlying29 rfl info_url ?_)
 refine (HOr.out _).mono ?_
 rintro e w3 ⟨rfl,hb3⟩
 have HS4:=hid (new_org w3 (sch,(k,nm,fr,sx),p))
 have HTh:=hid (new_there w3)
 have hlt3:U < w3.heap.size:=Nat.lt_of_lt_of_le HUc.out.lt hb3.size
 have HRN:Hid (R≠w3.heap.size∧U≤w3.heap.size):=by refine ⟨?_,Nat.le_of_lt hlt3⟩;have h1:=HRc.out.lt;have h2:=hb3.size;omega
 have HR4:=hid ((HRc.out.below hb3).below HS4.out.2)
 have HB4:=hid ((HBl.out.trans (hb3.mono (Nat.le_of_lt HUc.out.lt))).trans (HS4.out.2.mono HRN.out.2))
 clear hb3 hlt3 HRc HBl HU2 HUc
 go_upto_region 2 with (refine wpList_store_mid rfl 35 _ _ rfl w3.heap.size 0 (orgC (sch,(k,nm,fr,sx),p)).toArray rfl rfl HTh.out info_org (org_one _) ?_;try simp only [List.toList_toArray];generalize (w3.alloc (.cells #[.string ⟨#[]⟩,.int .i64 0,.string ⟨#[]⟩,.int .u32 0,.int .u16 0,.int .u16 0,.int .u16 0,.int .u16 0,.int .u16 0,.int .u16 0,.int .u16 0,.int .u16 0,.int .i64 0] OT)).setCells w3.heap.size 0 (orgC (sch,(k,nm,fr,sx),p))=w4 at *;generalize w3.heap.size=O at *)
 clear HTh
 have HN4:Hid (Bc OT w4 O (orgC (sch,(k,nm,fr,sx),p))):=hid HS4.out.1
 clear HS4
 cases ok
 ·have HX:Hid (S=(org0,false)):=by show _=_;rw [HSi.out];rfl
  clear HSi HZr HNm
  have HT:=hid (org_there HR4.out)
  have HS0:Hid (Bc OT (w4.setCells R 0 [.string ⟨#[]⟩,.int .i64 0,.string ⟨#[]⟩,.int .u32 0,.int .u16 0,.int .u16 0,.int .u16 0,.int .u16 0,.int .u16 0,.int .u16 0,.int .u16 0,.int .u16 0,.int .i64 0]) R (orgC org0)∧Below U w4 (w4.setCells R 0 [.string ⟨#[]⟩,.int .i64 0,.string ⟨#[]⟩,.int .u32 0,.int .u16 0,.int .u16 0,.int .u16 0,.int .u16 0,.int .u16 0,.int .u16 0,.int .u16 0,.int .u16 0,.int .i64 0])):=hid (org_store (p:=org0) HR4.out HUR.out.2.2)
  go_wp2_with (refine wpList_store_mid rfl 35 _ _ rfl R 0 #[.string ⟨#[]⟩,.int .i64 0,.string ⟨#[]⟩,.int .u32 0,.int .u16 0,.int .u16 0,.int .u16 0,.int .u16 0,.int .u16 0,.int .u16 0,.int .u16 0,.int .u16 0,.int .i64 0] rfl rfl HT.out info_org org_zero_one ?_;try simp only [List.toList_toArray];generalize World.setCells w4 R 0 _=w9 at *)
  have HS:=HS0
  refine bodyPost_ret (results_ct Tryz.results13 rfl (org_load HS.out.1) rfl) rfl ?_
  refine ⟨by rw [HX.out];rfl,?_⟩
  rw [HUR.out.1]
  exact HB4.out.trans HS.out.2
 ·have HN5:Hid (Bc OT (w4.setCell ⟨O,12,none⟩ (.int .i64 0)) O (orgC (sch,(k,nm,fr,sx),0))):=hid (HN4.out.set 12 (.int .i64 0))
  have HR5:Hid (Bc OT (w4.setCell ⟨O,12,none⟩ (.int .i64 0)) R (orgC org0)):=hid (HR4.out.kept (heap_setCell_other w4 _ _ _ HRN.out.1))
  have HB5:Hid (Below U w (w4.setCell ⟨O,12,none⟩ (.int .i64 0))):=hid (HB4.out.setCell (p:=⟨O,12,none⟩) HRN.out.2 _)
  have n12:=(HN4.out.cell 12 rfl).1
  have m12:=(HN4.out.cell 12 rfl).2
  clear HN4 HR4 HB4 HZr
  go_upto_region 5 with fail
  try clear n12
  try clear m12
  generalize w4.setCell ⟨O,12,none⟩ (.int .i64 0)=w5 at *
  have n1:=(HN5.out.cell 1 rfl).1
  by_cases hk:k=1
  ·subst hk
   have HX:Hid (S=((sch,(1,siteW nm (suffixN nm l),fr,sx),0),true)):=by show _=_;rw [HSi.out];rfl
   have HSuf:=hid (fun w hv=>ssuffix_calls (strOf nm) (.slice va l.length vcap) l w HNm.out hv HL.out HQ.out)
   have HLab:=hid (fun w=>slabel_calls (strOf nm) (strOf (suffixN nm l)) w HNm.out (suffix_fits nm l))
   have n2:=(HN5.out.cell 2 rfl).1
   have m2:=(HN5.out.cell 2 rfl).2
   clear HSi
   go_upto_region 6 with fail
   have HFs:Hid (∀w',Below w5.heap.size w5 w'→w'.cell? ⟨O,2,none⟩=some (.string (strOf nm))∧w'.frozen? ⟨O,2,none⟩=false):=fun w' hb=>(HN5.out.below hb).cell 2 rfl
   have HUw:Hid (U≤w5.heap.size):=by have h1:=HB5.out.size;rw [HUR.out.1] at h1;exact h1
   go_region_with (first
    | (go_at_call 16;refine (HSuf.out _ (HV.out _ (HB5.out.trans ((Below.refl _ _).drew)))).mono ?_;rintro e wy ⟨rfl,hby⟩;obtain ⟨n2y,m2y⟩:=HFs.out wy (((Below.refl _ _).drew).trans hby))
    | (go_at_call 28;refine (HLab.out _).mono ?_;rintro e wz ⟨rfl,hwz⟩;subst hwz))
   all_goals
    have HNy:=hid (HN5.out.below (((Below.refl _ _).drew).trans hby))
    have HRy:=hid (HR5.out.below (((Below.refl _ _).drew).trans hby))
    have HBy:=hid (HB5.out.trans ((((Below.refl _ _).drew).trans hby).mono HUw.out))
    have HN6:Hid (Bc OT (wz.setCell ⟨O,2,none⟩ (.string (strOf (siteW (strOf nm).data.toList (strOf (suffixN nm l)).data.toList)))) O (orgC (sch,(1,siteW nm (suffixN nm l),fr,sx),0))):=hid (HNy.out.set 2 (.string (strOf (siteW (strOf nm).data.toList (strOf (suffixN nm l)).data.toList))))
    have HR6:Hid (Bc OT (wz.setCell ⟨O,2,none⟩ (.string (strOf (siteW (strOf nm).data.toList (strOf (suffixN nm l)).data.toList)))) R (orgC org0)):=hid (HRy.out.kept (heap_setCell_other wz _ _ _ HRN.out.1))
    have HB6:Hid (Below U w (wz.setCell ⟨O,2,none⟩ (.string (strOf (siteW (strOf nm).data.toList (strOf (suffixN nm l)).data.toList))))):=hid (HBy.out.setCell (p:=⟨O,2,none⟩) HRN.out.2 _)
    clear HNy HRy HBy hby HFs HN5 HR5 HB5
    try clear n2
    try clear m2
    try clear n2y
    try clear m2y
    generalize wz.setCell ⟨O,2,none⟩ (.string (strOf (siteW (strOf nm).data.toList (strOf (suffixN nm l)).data.toList)))=w6 at *
    clear HSuf HLab
    have HT:=hid (org_there HR6.out)
    have HS:=hid (org_store (p:=(sch,(1,siteW nm (suffixN nm l),fr,sx),0)) HR6.out HUR.out.2.2)
    have HLd:=hid (org_range HN6.out)
    go_wp2_with (first | refine wpList_load_mid rfl 35 _ rfl O 0 rfl (orgC (sch,(1,siteW nm (suffixN nm l),fr,sx),0)) _ HLd.out Tryz.underlying35 rfl info_org ?_ | (refine wpList_store_mid rfl 35 _ _ rfl R 0 (orgC (sch,(1,siteW nm (suffixN nm l),fr,sx),0)).toArray rfl rfl HT.out info_org (org_one _) ?_;try simp only [List.toList_toArray];generalize World.setCells w6 R 0 _=w9 at *))
    refine bodyPost_ret (results_ct Tryz.results13 rfl (org_load HS.out.1) rfl) rfl ?_
    refine ⟨by rw [HX.out];rfl,?_⟩
    rw [HUR.out.1]
    exact HB6.out.trans HS.out.2
  ·have hk1:(k==1)=false:=beq_eq_false_iff_ne.2 hk
   have HX:Hid (S=((sch,(k,nm,fr,sx),0),true)):=by
    show _=_
    rw [HSi.out,if_pos rfl]
    show ((sch,nameN (k,nm,fr,sx) l,(0:Int)),true)=_
    unfold nameN
    rw [if_neg hk]
   clear HSi hk
   have HT:=hid (org_there HR5.out)
   have HS:=hid (org_store (p:=(sch,(k,nm,fr,sx),0)) HR5.out HUR.out.2.2)
   have HLd:=hid (org_range HN5.out)
   go_wp2_with (first | refine wpList_load_mid rfl 35 _ rfl O 0 rfl (orgC (sch,(k,nm,fr,sx),0)) _ HLd.out Tryz.underlying35 rfl info_org ?_ | (refine wpList_store_mid rfl 35 _ _ rfl R 0 (orgC (sch,(k,nm,fr,sx),0)).toArray rfl rfl HT.out info_org (org_one _) ?_;try simp only [List.toList_toArray];generalize World.setCells w5 R 0 _=w9 at *))
   refine bodyPost_ret (results_ct Tryz.results13 rfl (org_load HS.out.1) rfl) rfl ?_
   refine ⟨by rw [HX.out];rfl,?_⟩
   rw [HUR.out.1]
   exact HB5.out.trans HS.out.2
theorem new_url (w:World) (u:UrlN) (pv:Value):Bc UT ((w.alloc (.cells #[.string ⟨#[]⟩,.string ⟨#[]⟩,.string ⟨#[]⟩,.bool false,.int .i64 0,.string ⟨#[]⟩,.int .u32 0,.int .u16 0,.int .u16 0,.int .u16 0,.int .u16 0,.int .u16 0,.int .u16 0,.int .u16 0,.int .u16 0,.int .i64 0,.bool false,.string ⟨#[]⟩,.slice none 0 0,.bool false,.string ⟨#[]⟩,.bool false,.string ⟨#[]⟩] UT)).setCells w.heap.size 0 (urlC u pv)) w.heap.size (urlC u pv)∧Below w.heap.size w ((w.alloc (.cells #[.string ⟨#[]⟩,.string ⟨#[]⟩,.string ⟨#[]⟩,.bool false,.int .i64 0,.string ⟨#[]⟩,.int .u32 0,.int .u16 0,.int .u16 0,.int .u16 0,.int .u16 0,.int .u16 0,.int .u16 0,.int .u16 0,.int .u16 0,.int .i64 0,.bool false,.string ⟨#[]⟩,.slice none 0 0,.bool false,.string ⟨#[]⟩,.bool false,.string ⟨#[]⟩] UT)).setCells w.heap.size 0 (urlC u pv)):=by
 have h:Bc UT (w.alloc (.cells #[.string ⟨#[]⟩,.string ⟨#[]⟩,.string ⟨#[]⟩,.bool false,.int .i64 0,.string ⟨#[]⟩,.int .u32 0,.int .u16 0,.int .u16 0,.int .u16 0,.int .u16 0,.int .u16 0,.int .u16 0,.int .u16 0,.int .u16 0,.int .i64 0,.bool false,.string ⟨#[]⟩,.slice none 0 0,.bool false,.string ⟨#[]⟩,.bool false,.string ⟨#[]⟩] UT)) w.heap.size (urlC url0 (.slice none 0 0)):=heap_alloc_new w _
 have:=url_store (v:=u) (pv:=pv) h (Nat.le_refl _)
 exact ⟨this.1,(ballC w _).trans this.2⟩
theorem new_urlT (w:World):(w.alloc (.cells #[.string ⟨#[]⟩,.string ⟨#[]⟩,.string ⟨#[]⟩,.bool false,.int .i64 0,.string ⟨#[]⟩,.int .u32 0,.int .u16 0,.int .u16 0,.int .u16 0,.int .u16 0,.int .u16 0,.int .u16 0,.int .u16 0,.int .u16 0,.int .i64 0,.bool false,.string ⟨#[]⟩,.slice none 0 0,.bool false,.string ⟨#[]⟩,.bool false,.string ⟨#[]⟩] UT)).there w.heap.size 0 23:=url_there (u:=url0) (pv:=.slice none 0 0) (heap_alloc_new w _)
theorem path_one {w:World} {B:Nat} {v:Value} {l:List (List UInt8)} (h:PathO w B v l):v.oneCell'=true:=by obtain ⟨a,cap,hpv,-⟩:=h.row;rw [hpv];rfl
def exS:List UInt8:=[104,116,116,112,115,58,47,47,97,46,98,46,99,111,46,117,107,58,56,48,56,48,47]
def exU:UrlN:={ urlM with sch:=[104,116,116,112,115],hasHost:=true,host:=(1,[97,46,98,46,99,111,46,117,107],0,z8),port:=8080,path:=[[]] }
set_option maxRecDepth 100000 in
theorem exU_is:urlR exS url0 false=(exU,0):=by kernel_rfl
def exO:OrgN:=([104,116,116,112,115],(1,[98,46,99,111,46,117,107],0,z8),0)
set_option maxRecDepth 100000 in
theorem exO_is:siteN exU [[99,111,46,117,107]]=(exO,true):=by kernel_rfl
set_option maxRecDepth 100000 in
theorem exY_is:suffixN [120,46,121] []=[121]:=by kernel_rfl
theorem sfirst_calls (w:World) (T:TabR w):Calls Tryz.prog 7 #[] w fun e w'=>e=.returned (.bool true)∧Below w.heap.size w w':=by
 have HP:=hid (uparse_calls (strOf exS) w T)
 have e1:(strOf exS).data.toList=exS:=rfl
 rw [e1,exU_is] at HP
 have HSi:=hid (fun pv v w (hv:SRowIp w v [[99,111,46,117,107]])=>ssite_calls exU pv v [[99,111,46,117,107]] w (by decide) (by decide) hv (by decide) (by decide))
 rw [exO_is] at HSi
 have HSu:=hid (fun v w (hv:SRowIp w v [])=>ssuffix_calls ⟨#[120,46,121]⟩ v [] w (by decide) hv (by decide) (by decide))
 have e2:suffixN (⟨#[120,46,121]⟩:ByteArray).data.toList []=[121]:=exY_is
 rw [e2] at HSu
 clear e1 e2 T
 unfold exS at HP
 go_enter Tryz.func7,Tryz.ntmps7
 go_wp2_with fail
 refine HP.out.mono ?_
 rintro e w1 ⟨⟨pv,rfl,hp⟩,hb1⟩
 have hpv:=path_one hp
 have HB1:=hid (hb1)
 clear hb1 hp HP
 have HNn:=hid (new_url w1 exU pv)
 have HB2:=hid (HB1.out.trans ((HNn.out.2).mono HB1.out.size))
 clear HB1
 have HU3:=hid HNn.out.1
 clear HNn
 go_upto_region 2 with (refine wpList_store_mid rfl 29 _ _ rfl w1.heap.size 0 (urlC exU pv).toArray rfl rfl (new_urlT _) info_url (url_one _ _ hpv) ?_;try simp only [List.toList_toArray];generalize (w1.alloc (.cells #[.string ⟨#[]⟩,.string ⟨#[]⟩,.string ⟨#[]⟩,.bool false,.int .i64 0,.string ⟨#[]⟩,.int .u32 0,.int .u16 0,.int .u16 0,.int .u16 0,.int .u16 0,.int .u16 0,.int .u16 0,.int .u16 0,.int .u16 0,.int .i64 0,.bool false,.string ⟨#[]⟩,.slice none 0 0,.bool false,.string ⟨#[]⟩,.bool false,.string ⟨#[]⟩] UT)).setCells w1.heap.size 0 (urlC exU pv)=w2 at *;generalize w1.heap.size=U1 at *)
 have HRw:=hid (oneS_row w2 [99,111,46,117,107])
 go_wp2_with (refine wpList_load_mid rfl 29 _ rfl U1 0 rfl (urlC exU pv) _ (url_range HU3.out) Tryz.underlying29 rfl info_url ?_)
 have hal:Below w2.heap.size w2 (w2.alloc (.cells #[.string (strOf [99,111,46,117,107])] 9)):=ballC _ _
 have HU4:=hid (HU3.out.below (hal))
 have HB5:=hid (HB2.out.trans ((hal).mono HB2.out.size))
 clear HU3 HB2
 clear hal
 refine (HSi.out _ _ _ HRw.out).mono ?_
 rintro e w3 ⟨rfl,hb3⟩
 have HU6:=hid (HU4.out.below (hb3))
 have HB7:=hid (HB5.out.trans ((hb3).mono HB5.out.size))
 clear HU4 HB5
 clear hb3
 clear HRw
 have HNn:=hid (new_org w3 exO)
 have HU8:=hid (HU6.out.below (HNn.out.2))
 have HB9:=hid (HB7.out.trans ((HNn.out.2).mono HB7.out.size))
 clear HU6 HB7
 have HO10:=hid HNn.out.1
 clear HNn
 go_upto_region 3 with (refine wpList_store_mid rfl 35 _ _ rfl w3.heap.size 0 (orgC exO).toArray rfl rfl (new_there _) info_org (org_one _) ?_;try simp only [List.toList_toArray];generalize (w3.alloc (.cells #[.string ⟨#[]⟩,.int .i64 0,.string ⟨#[]⟩,.int .u32 0,.int .u16 0,.int .u16 0,.int .u16 0,.int .u16 0,.int .u16 0,.int .u16 0,.int .u16 0,.int .u16 0,.int .i64 0] OT)).setCells w3.heap.size 0 (orgC exO)=w4 at *;generalize w3.heap.size=O1 at *)
 have x0:=(HO10.out.cell 0 rfl).1
 have x2:=(HO10.out.cell 2 rfl).1
 have x12:=(HO10.out.cell 12 rfl).1
 have s0:(strOf exO.1).toList=[104,116,116,112,115]:=ByteArray.toList_eq _
 have s2:(strOf exO.2.1.2.1).toList=[98,46,99,111,46,117,107]:=ByteArray.toList_eq _
 have s3:(strOf [121]).toList=[121]:=ByteArray.toList_eq _
 go_wp2_with fail
 refine (HSu.out (.slice none 0 0) _ (Row.nil _ _)).mono ?_
 rintro e w5 ⟨rfl,hb5⟩
 have HU11:=hid (HU8.out.below (hb5))
 have HO12:=hid (HO10.out.below (hb5))
 have HB13:=hid (HB9.out.trans ((hb5).mono HB9.out.size))
 clear HU8 HO10 HB9
 clear hb5
 go_wp2_with fail
 go_ret
 exact ⟨by first | rfl | simp [s0,s2,s3],HB13.out⟩
def stepN (n:Nat) (q:List UInt8):Nat:=min (n+min q.length 20000) 80000
def sumU (u:UrlN):Nat:=u.sch.length+u.usr.length+u.pas.length+u.host.2.1.length+u.txt.length+u.qry.length+u.frg.length
def fewU (u:UrlN):Bool:=decide (u.path.length≤300)&&decide ((u.path.take 300).foldl stepN (sumU u)≤20000)
theorem stepN_le:∀(l:List (List UInt8)) (n:Nat),l.foldl stepN n≤20000→n≤20000
 | [],n,h=>h
 | q::r,n,h=>by
   have:=stepN_le r _ h
   unfold stepN at this
   omega
theorem fewU_true {u:UrlN} (h:fewU u=true):u.path.length≤300∧sumU u≤20000:=by
 unfold fewU at h
 rw [Bool.and_eq_true,decide_eq_true_eq,decide_eq_true_eq] at h
 exact ⟨h.1,stepN_le _ _ h.2⟩
theorem fold_big (l:List (List UInt8)) (n:Nat) (hn:n≤7700000) (k:Nat):(l.take k).foldl stepN n≤7700000:=by
 have key:∀(l:List (List UInt8)) (n:Nat),n≤7700000→l.foldl stepN n≤7700000:=by
  intro l
  induction l with
  | nil=>exact fun n h=>h
  | cons q r ih=>exact fun n h=>ih _ (by unfold stepN;omega)
 exact key _ _ hn
def UrlZ (u:UrlN):Prop:=u.sch.length≤1100000∧u.usr.length≤1100000∧u.pas.length≤1100000∧u.host.2.1.length≤1100000∧u.txt.length≤1100000∧u.qry.length≤1100000∧u.frg.length≤1100000∧∀q∈u.path,q.length≤1100000
theorem Few_calls (u:UrlN) (pv:Value) (w:World) (hp:SRowIp w pv u.path) (hz:UrlZ u) :
 Calls Tryz.prog 8 #[.agg (urlC u pv).toArray] w fun e w'=>e=.returned (.bool (fewU u))∧Below w.heap.size w w':=by
 obtain ⟨A,hA⟩:∃A,(urlC u pv).toArray=A:=⟨_,rfl⟩
 rw [hA]
 have HA:=hid hA
 obtain ⟨b1,b2,b3,b4,b5,b6,b7,b8⟩:=hz
 have B8:=hid b8
 have a1:((strOf u.sch).size:Int)≤1100000:=Int.ofNat_le.2 b1
 have a2:((strOf u.usr).size:Int)≤1100000:=Int.ofNat_le.2 b2
 have a3:((strOf u.pas).size:Int)≤1100000:=Int.ofNat_le.2 b3
 have a4:((strOf u.host.2.1).size:Int)≤1100000:=Int.ofNat_le.2 b4
 have a5:((strOf u.txt).size:Int)≤1100000:=Int.ofNat_le.2 b5
 have a6:((strOf u.qry).size:Int)≤1100000:=Int.ofNat_le.2 b6
 have a7:((strOf u.frg).size:Int)≤1100000:=Int.ofNat_le.2 b7
 have HSum:Hid (sumU u=(strOf u.sch).size+(strOf u.usr).size+(strOf u.pas).size+(strOf u.host.2.1).size+(strOf u.txt).size+(strOf u.qry).size+(strOf u.frg).size):=hid rfl
 have HF:Hid (fewU u=(decide (u.path.length≤300)&&decide ((u.path.take 300).foldl stepN (sumU u)≤20000))):=hid rfl
 have HB:=hid (ballC w (.cells A UT))
 have HUc:Hid (Bc UT (w.alloc (.cells A UT)) w.heap.size (urlC u pv)):=by
  have:=heap_alloc_new w (.cells (urlC u pv).toArray UT)
  rw [hA] at this
  show _=_
  rw [this,hA]
 obtain ⟨pa,pcap,rfl,h1,h2,h3⟩:=hp.below HB.out
 have H3:=hid h3
 unfold maxLen at h2
 have hl:(u.path.length:Int)≤9223372036854775807:=by omega
 have hlc:u.path.length≤pcap:=h1
 clear hA HA b1 b2 b3 b4 b5 b6 b7 b8 hp h3 h2 h1
 go_enter Tryz.func8,Tryz.ntmps8
 go_upto_region 1 with fail
 generalize w.alloc (.cells A UT)=w2 at *
 generalize hU:w.heap.size=U at *
 have c0:=(HUc.out.cell 0 rfl).1
 have c1:=(HUc.out.cell 1 rfl).1
 have c2:=(HUc.out.cell 2 rfl).1
 have c5:=(HUc.out.cell 5 rfl).1
 have c17:=(HUc.out.cell 17 rfl).1
 have c20:=(HUc.out.cell 20 rfl).1
 have c22:=(HUc.out.cell 22 rfl).1
 have c18:=(HUc.out.cell 18 rfl).1
 clear HUc
 have HZ:Hid (sumU u≤7700000):=by show _≤_;rw [HSum.out];omega
 go_upto_region 2 with fail
 clear c0 c1 c2 c5 c17 c20 c22
 have HBk:=hid (fold_big u.path (sumU u) HZ.out)
 go_wp2_with fail
 go_loopw [3,4] (fun n i wr=>∃k:Nat,k≤u.path.length∧k≤300∧n=.int .i64 (((u.path.take k).foldl stepN (sumU u):Nat):Int)∧i=.int .i64 k∧wr=w2) (fun _ i _=>u.path.length-(intOf i).toNat)
 case atStart=>exact ⟨0,Nat.zero_le _,Nat.zero_le _,by rw [List.take_zero,List.foldl_nil,HSum.out];congr 1,rfl,rfl⟩
 case round =>
  obtain ⟨k,hk,hk3,rfl,rfl,hw⟩:=hrel
  subst hw
  by_cases hlt:k < u.path.length
  ·by_cases h300:k < 300
   ·obtain ⟨b,off,rfl,hbl,hc⟩:=H3.out (by intro h;simp [h] at hlt)
    have ck:=hc k hlt
    have HSt:Hid ((u.path.take (k+1)).foldl stepN (sumU u)=stepN ((u.path.take k).foldl stepN (sumU u)) u.path[k]):=by
     show _=_
     rw [List.take_succ_eq_append_getElem hlt,List.foldl_append]
     rfl
    have k0:(k:Int) < (u.path.length:Int):=by omega
    have k1:(k:Int) < 300:=by omega
    have hm:=HBk.out k
    have hcl:u.path.length≤pcap:=hlc
    clear hc H3 hbl
    generalize u.path[k]=q at *
    generalize (u.path.take k).foldl stepN (sumU u)=m at *
    have sz:(strOf q).size=q.length:=rfl
    have m0:(m:Int)≤7700000:=by omega
    have hst:stepN m q=min (m+min q.length 20000) 80000:=rfl
    rw [hst] at HSt
    go_wp2_with fail
    go_roundw
    case rel=>exact ⟨k+1,hlt,h300,by rw [HSt.out];congr 1;first | omega | (push_cast;rfl) | simp,by go_num,by trivial⟩
    case measure=>simp [intOf];omega
   ·obtain rfl:k=300:=by omega
    have k0:(300:Int) < (u.path.length:Int):=by omega
    have k2:¬(u.path.length:Int)≤300:=by omega
    have HX:Hid (fewU u=false):=by show _=_;rw [HF.out,decide_eq_false (by omega)];rfl
    clear H3 HF
    generalize (u.path.take 300).foldl stepN (sumU u)=m at *
    go_wp2_with fail
    go_ret
    exact ⟨by rw [HX.out];rfl,HB.out⟩
  ·obtain rfl:k=u.path.length:=by omega
   have k0:¬(u.path.length:Int) < (u.path.length:Int):=by omega
   have k2:(u.path.length:Int)≤300:=by omega
   have HX:Hid (fewU u=decide ((((u.path.take u.path.length).foldl stepN (sumU u):Nat):Int)≤20000)):=by
    show _=_
    rw [HF.out,decide_eq_true hk3,Bool.true_and,List.take_length,List.take_of_length_le hk3]
    by_cases h:u.path.foldl stepN (sumU u)≤20000
    ·rw [decide_eq_true h,decide_eq_true (by omega)]
    ·rw [decide_eq_false h,decide_eq_false (by omega)]
   clear H3 HF
   generalize (u.path.take u.path.length).foldl stepN (sumU u)=m at *
   go_wp2_with fail
   go_ret
   exact ⟨by rw [HX.out];rfl,HB.out⟩
end Go.Proofs.YtigfgloenjoeoaaGreatDoor
