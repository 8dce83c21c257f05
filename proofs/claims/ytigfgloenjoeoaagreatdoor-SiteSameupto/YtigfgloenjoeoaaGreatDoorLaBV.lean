import Derived.Test.YtigfgloenjoeoaaGreatDoorLaBU
import Derived.Test.YtigfgloenjoeoaaGreatDoorLaBF
import Derived.Test.YtigfgloenjoeoaaGreatDoorLaAU
set_option linter.unusedVariables false
set_option linter.unusedSimpArgs false
set_option maxRecDepth 20000
set_option maxHeartbeats 16000000
namespace Go.Proofs.YtigfgloenjoeoaaGreatDoor
open Go.RowKit Go.Shelf
abbrev OT:TypeId:=35
def orgC (o:OrgN):List Value:=[.string (strOf o.1),.int .i64 o.2.1.1,.string (strOf o.2.1.2.1),.int .u32 (o.2.1.2.2.1:Int),u16v o.2.1.2.2.2 0,u16v o.2.1.2.2.2 1,u16v o.2.1.2.2.2 2,u16v o.2.1.2.2.2 3,u16v o.2.1.2.2.2 4,u16v o.2.1.2.2.2 5,u16v o.2.1.2.2.2 6,u16v o.2.1.2.2.2 7,.int .i64 o.2.2]
def orgV (o:OrgN):Value:=.agg (orgC o).toArray
theorem info_org:(Tryz.prog.info? OT).map (·.size)=some 13:=by kernel_rfl
theorem org_range {w:World} {R:Nat} {o:OrgN} (h:Bc OT w R (orgC o)):w.rangeAt R 0 (orgC o):=fun j v hv=>by rw [Nat.zero_add];exact (h.cell j hv).1
theorem org_load {w:World} {R:Nat} {o:OrgN} (h:Bc OT w R (orgC o)):(loadVar OT ⟨R,0,none⟩).run Tryz.prog w=.ok (orgV o) w :=
 run_loadVar_mid w R 0 OT (orgC o) _ (org_range h) Tryz.underlying35 rfl info_org
theorem org_there {w:World} {R:Nat} {o:OrgN} (h:Bc OT w R (orgC o)):w.there R 0 13:=fun j hj=>by
 obtain ⟨v,hv⟩:∃v,(orgC o)[j]? = some v:=⟨_,List.getElem?_eq_getElem (by show j < 13;exact hj)⟩
 have:=h.cell j hv
 rw [Nat.zero_add]
 exact ⟨by rw [this.1];rfl,this.2⟩
theorem bc_sets {t:TypeId} {R:Nat}:∀(l:List (Nat×Value)) (w:World) (xs:List Value),Bc t w R xs→Bc t (sets R l w) R (l.foldl (fun xs p=>xs.set p.1 p.2) xs)
 | [],_,_,h=>h
 | p::l,w,xs,h=>bc_sets l _ _ (h.set p.1 p.2)
theorem org_store {w:World} {B R:Nat} {o p:OrgN} (h:Bc OT w R (orgC o)) (hB:B≤R):Bc OT (w.setCells R 0 (orgC p)) R (orgC p)∧Below B w (w.setCells R 0 (orgC p)):=by
 rw [setCells_sets]
 refine ⟨?_,url_below hB _ _⟩
 have:=bc_sets (((orgC p).zipIdx 0).map fun p=>(p.2,p.1)) w _ h
 rw [foldl_zip _ _ _ (by show 0+13≤13;decide)] at this
 exact this
theorem two_new (w:World) (A C:Array Value) (t s:TypeId):((w.alloc (.cells A t)).alloc (.cells C s)).heap[w.heap.size]? = some (.cells A t)∧((w.alloc (.cells A t)).alloc (.cells C s)).heap[w.heap.size+1]? = some (.cells C s)∧Below w.heap.size w ((w.alloc (.cells A t)).alloc (.cells C s)):=by
 have e1:(w.alloc (.cells A t)).heap.size=w.heap.size+1:=by simp
 have h1:∀o,Below (w.heap.size+1) (w.alloc (.cells A t)) ((w.alloc (.cells A t)).alloc o):=fun o=>(Below.refl _ _).alloc (Nat.le_of_eq e1.symm) o
 refine ⟨((h1 _).block _ (Nat.lt_succ_self _)).trans (heap_alloc_new w _),?_,((Below.refl _ _).alloc (Nat.le_refl _) _).trans ((h1 _).mono (Nat.le_succ _))⟩
 have:=heap_alloc_new (w.alloc (.cells A t)) (.cells C s)
 rw [e1] at this
 exact this
def OrgPost (o:OrgN×Bool) (w:World) (e:Ending) (w':World):Prop:=e=.returned (.tuple #[orgV o.1,.bool o.2])∧Below w.heap.size w w'
theorem org_zero_one:(#[.string ⟨#[]⟩,.int .i64 0,.string ⟨#[]⟩,.int .u32 0,.int .u16 0,.int .u16 0,.int .u16 0,.int .u16 0,.int .u16 0,.int .u16 0,.int .u16 0,.int .u16 0,.int .i64 0]:Array Value).all (·.oneCell')=true:=all_oneCell_toArray (List.all_eq_true.1 (show (orgC org0).all (·.oneCell')=true from rfl))
theorem set13 {N k:Nat} {w X:World} {v0 v1 v2 v3 v4 v5 v6 v7 v8 v9 v10 v11 v12:Value} (h:Below N w X) (hk:N≤k):Below N w (((((((((((((X.setCell ⟨k,0,none⟩ v0).setCell ⟨k,1,none⟩ v1).setCell ⟨k,2,none⟩ v2).setCell ⟨k,3,none⟩ v3).setCell ⟨k,4,none⟩ v4).setCell ⟨k,5,none⟩ v5).setCell ⟨k,6,none⟩ v6).setCell ⟨k,7,none⟩ v7).setCell ⟨k,8,none⟩ v8).setCell ⟨k,9,none⟩ v9).setCell ⟨k,10,none⟩ v10).setCell ⟨k,11,none⟩ v11).setCell ⟨k,12,none⟩ v12) :=
 (((((((((((((h.setCell (p:=⟨k,0,none⟩) hk v0).setCell (p:=⟨k,1,none⟩) hk v1).setCell (p:=⟨k,2,none⟩) hk v2).setCell (p:=⟨k,3,none⟩) hk v3).setCell (p:=⟨k,4,none⟩) hk v4).setCell (p:=⟨k,5,none⟩) hk v5).setCell (p:=⟨k,6,none⟩) hk v6).setCell (p:=⟨k,7,none⟩) hk v7).setCell (p:=⟨k,8,none⟩) hk v8).setCell (p:=⟨k,9,none⟩) hk v9).setCell (p:=⟨k,10,none⟩) hk v10).setCell (p:=⟨k,11,none⟩) hk v11).setCell (p:=⟨k,12,none⟩) hk v12)
theorem newF {w wy:World} (hb:Below (w.alloc (.cells #[.string ⟨#[]⟩,.int .i64 0,.string ⟨#[]⟩,.int .u32 0,.int .u16 0,.int .u16 0,.int .u16 0,.int .u16 0,.int .u16 0,.int .u16 0,.int .u16 0,.int .u16 0,.int .i64 0] OT)).drew.heap.size (w.alloc (.cells #[.string ⟨#[]⟩,.int .i64 0,.string ⟨#[]⟩,.int .u32 0,.int .u16 0,.int .u16 0,.int .u16 0,.int .u16 0,.int .u16 0,.int .u16 0,.int .u16 0,.int .u16 0,.int .i64 0] OT)).drew wy):wy.cell? ⟨w.heap.size,0,none⟩=some (.string ⟨#[]⟩)∧wy.frozen? ⟨w.heap.size,0,none⟩=false∧wy.cell? ⟨w.heap.size,1,none⟩=some (.int .i64 0)∧wy.frozen? ⟨w.heap.size,1,none⟩=false∧wy.cell? ⟨w.heap.size,2,none⟩=some (.string ⟨#[]⟩)∧wy.frozen? ⟨w.heap.size,2,none⟩=false∧wy.cell? ⟨w.heap.size,3,none⟩=some (.int .u32 0)∧wy.frozen? ⟨w.heap.size,3,none⟩=false∧wy.cell? ⟨w.heap.size,4,none⟩=some (.int .u16 0)∧wy.frozen? ⟨w.heap.size,4,none⟩=false∧wy.cell? ⟨w.heap.size,5,none⟩=some (.int .u16 0)∧wy.frozen? ⟨w.heap.size,5,none⟩=false∧wy.cell? ⟨w.heap.size,6,none⟩=some (.int .u16 0)∧wy.frozen? ⟨w.heap.size,6,none⟩=false∧wy.cell? ⟨w.heap.size,7,none⟩=some (.int .u16 0)∧wy.frozen? ⟨w.heap.size,7,none⟩=false∧wy.cell? ⟨w.heap.size,8,none⟩=some (.int .u16 0)∧wy.frozen? ⟨w.heap.size,8,none⟩=false∧wy.cell? ⟨w.heap.size,9,none⟩=some (.int .u16 0)∧wy.frozen? ⟨w.heap.size,9,none⟩=false∧wy.cell? ⟨w.heap.size,10,none⟩=some (.int .u16 0)∧wy.frozen? ⟨w.heap.size,10,none⟩=false∧wy.cell? ⟨w.heap.size,11,none⟩=some (.int .u16 0)∧wy.frozen? ⟨w.heap.size,11,none⟩=false∧wy.cell? ⟨w.heap.size,12,none⟩=some (.int .i64 0)∧wy.frozen? ⟨w.heap.size,12,none⟩=false:=by
 have h0:Bc OT (w.alloc (.cells #[.string ⟨#[]⟩,.int .i64 0,.string ⟨#[]⟩,.int .u32 0,.int .u16 0,.int .u16 0,.int .u16 0,.int .u16 0,.int .u16 0,.int .u16 0,.int .u16 0,.int .u16 0,.int .i64 0] OT)).drew w.heap.size (orgC org0):=heap_alloc_new w _
 have h:=h0.below hb
 exact ⟨(h.cell 0 rfl).1,(h.cell 0 rfl).2,(h.cell 1 rfl).1,(h.cell 1 rfl).2,(h.cell 2 rfl).1,(h.cell 2 rfl).2,(h.cell 3 rfl).1,(h.cell 3 rfl).2,(h.cell 4 rfl).1,(h.cell 4 rfl).2,(h.cell 5 rfl).1,(h.cell 5 rfl).2,(h.cell 6 rfl).1,(h.cell 6 rfl).2,(h.cell 7 rfl).1,(h.cell 7 rfl).2,(h.cell 8 rfl).1,(h.cell 8 rfl).2,(h.cell 9 rfl).1,(h.cell 9 rfl).2,(h.cell 10 rfl).1,(h.cell 10 rfl).2,(h.cell 11 rfl).1,(h.cell 11 rfl).2,(h.cell 12 rfl).1,(h.cell 12 rfl).2⟩
theorem sorigin_calls (u:UrlN) (pv:Value) (w:World) (h1:u.sch.length≤100000) (h2:u.host.2.1.length≤100000) :
 Calls Tryz.prog 11 #[.agg (urlC u pv).toArray] w fun e w'=>OrgPost (originN u) w e w':=by
 obtain ⟨A,hA⟩:∃A,(urlC u pv).toArray=A:=⟨_,rfl⟩
 rw [hA]
 have HA:=hid hA
 clear hA
 have HSp:Hid (∀w,Calls Tryz.prog 25 #[.string (strOf u.sch)] w fun e w'=>e=.returned (.int .i64 (specialN u.sch:Int))∧w'=w):=hid (fun w=>uSpecial_calls (strOf u.sch) w)
 have HC1:=hid (fun w=>hclone_calls (strOf u.sch) w h1)
 have HC2:=hid (fun w=>hclone_calls (strOf u.host.2.1) w h2)
 have HO:Hid (originN u=if specialN u.sch=0∨u.hasHost=false then (org0,false) else ((u.sch,u.host,if u.port=-1 then (specialN u.sch:Int) else u.port),true)):=hid rfl
 generalize specialN u.sch=sp at *
 generalize originN u=O at *
 clear h1 h2
 go_enter Tryz.func11,Tryz.ntmps11
 go_upto_region 1 with fail
 have H2:=hid (two_new w A #[.string ⟨#[]⟩,.int .i64 0,.string ⟨#[]⟩,.int .u32 0,.int .u16 0,.int .u16 0,.int .u16 0,.int .u16 0,.int .u16 0,.int .u16 0,.int .u16 0,.int .u16 0,.int .i64 0] UT OT)
 generalize (w.alloc (.cells A UT)).alloc (.cells #[.string ⟨#[]⟩,.int .i64 0,.string ⟨#[]⟩,.int .u32 0,.int .u16 0,.int .u16 0,.int .u16 0,.int .u16 0,.int .u16 0,.int .u16 0,.int .u16 0,.int .u16 0,.int .i64 0] OT)=w2 at *
 obtain ⟨R,hR⟩:∃R,w.heap.size+1=R:=⟨_,rfl⟩
 rw [hR] at H2 ⊢
 obtain ⟨U,hU⟩:∃U,w.heap.size=U:=⟨_,rfl⟩
 have HUR:Hid (w.heap.size=U∧U≠R∧U≤R):=by refine ⟨hU,?_,?_⟩<;>omega
 rw [hU] at H2 ⊢
 clear hR hU
 have HUc:Hid (Bc UT w2 U (urlC u pv)):=by show _=_;rw [H2.out.1,HA.out]
 have HRc:Hid (Bc OT w2 R (orgC org0)):=H2.out.2.1
 have HBl:Hid (Below U w w2):=H2.out.2.2
 clear H2 HA
 have c0:=(HUc.out.cell 0 rfl).1
 have c3:=(HUc.out.cell 3 rfl).1
 have HT:=hid (org_there HRc.out)
 by_cases h0:sp=0
 ·subst h0
  have HX:Hid (O=(org0,false)):=by show _=_;rw [HO.out,if_pos (Or.inl rfl)]
  clear HO
  have HS:Hid (Bc OT (w2.setCells R 0 [.string ⟨#[]⟩,.int .i64 0,.string ⟨#[]⟩,.int .u32 0,.int .u16 0,.int .u16 0,.int .u16 0,.int .u16 0,.int .u16 0,.int .u16 0,.int .u16 0,.int .u16 0,.int .i64 0]) R (orgC org0)∧Below U w2 (w2.setCells R 0 [.string ⟨#[]⟩,.int .i64 0,.string ⟨#[]⟩,.int .u32 0,.int .u16 0,.int .u16 0,.int .u16 0,.int .u16 0,.int .u16 0,.int .u16 0,.int .u16 0,.int .u16 0,.int .i64 0])):=hid (org_store (p:=org0) HRc.out HUR.out.2.2)
  go_wp2_with fail
  refine (HSp.out _).mono ?_
  rintro e w1 ⟨rfl,hw⟩
  subst hw
  go_wp2_with (refine wpList_store_mid rfl 35 _ _ rfl R 0 #[.string ⟨#[]⟩,.int .i64 0,.string ⟨#[]⟩,.int .u32 0,.int .u16 0,.int .u16 0,.int .u16 0,.int .u16 0,.int .u16 0,.int .u16 0,.int .u16 0,.int .u16 0,.int .i64 0] rfl rfl HT.out info_org org_zero_one ?_;try simp only [List.toList_toArray];generalize World.setCells w1 R 0 _=w3 at *)
  refine bodyPost_ret (results_ct Tryz.results11 rfl (org_load HS.out.1) rfl) rfl ?_
  refine ⟨by rw [HX.out];rfl,?_⟩
  rw [HUR.out.1]
  exact HBl.out.trans HS.out.2
 ·have e0:((sp:Int)==0)=false:=beq_eq_false_iff_ne.2 (by omega)
  cases hh:u.hasHost
  ·have HX:Hid (O=(org0,false)):=by show _=_;rw [HO.out,if_pos (Or.inr hh)]
   rw [hh] at c3
   clear HO h0 hh
   have HS:Hid (Bc OT (w2.setCells R 0 [.string ⟨#[]⟩,.int .i64 0,.string ⟨#[]⟩,.int .u32 0,.int .u16 0,.int .u16 0,.int .u16 0,.int .u16 0,.int .u16 0,.int .u16 0,.int .u16 0,.int .u16 0,.int .i64 0]) R (orgC org0)∧Below U w2 (w2.setCells R 0 [.string ⟨#[]⟩,.int .i64 0,.string ⟨#[]⟩,.int .u32 0,.int .u16 0,.int .u16 0,.int .u16 0,.int .u16 0,.int .u16 0,.int .u16 0,.int .u16 0,.int .u16 0,.int .i64 0])):=hid (org_store (p:=org0) HRc.out HUR.out.2.2)
   go_wp2_with fail
   refine (HSp.out _).mono ?_
   rintro e w1 ⟨rfl,hw⟩
   subst hw
   go_wp2_with (refine wpList_store_mid rfl 35 _ _ rfl R 0 #[.string ⟨#[]⟩,.int .i64 0,.string ⟨#[]⟩,.int .u32 0,.int .u16 0,.int .u16 0,.int .u16 0,.int .u16 0,.int .u16 0,.int .u16 0,.int .u16 0,.int .u16 0,.int .i64 0] rfl rfl HT.out info_org org_zero_one ?_;try simp only [List.toList_toArray];generalize World.setCells w1 R 0 _=w3 at *)
   refine bodyPost_ret (results_ct Tryz.results11 rfl (org_load HS.out.1) rfl) rfl ?_
   refine ⟨by rw [HX.out];rfl,?_⟩
   rw [HUR.out.1]
   exact HBl.out.trans HS.out.2
  ·obtain ⟨p,hp⟩:∃p,(if u.port=-1 then (sp:Int) else u.port)=p:=⟨_,rfl⟩
   have HX:Hid (O=((u.sch,u.host,p),true)):=by show _=_;rw [HO.out,if_neg (by simp [h0,hh]),hp]
   rw [hh] at c3
   have HP:Hid ((((u.port==-1)=false)∧u.port=p)∨(((u.port==-1)=true)∧(sp:Int)=p)):=by
    by_cases h:u.port=-1
    ·rw [if_pos h] at hp;exact Or.inr ⟨by rw [h];rfl,hp⟩
    ·rw [if_neg h] at hp;exact Or.inl ⟨beq_eq_false_iff_ne.2 h,hp⟩
   clear HO h0 hh hp
   obtain ⟨y0,hy0⟩:∃y,u.host.2.2.2.getD 0 0=y:=⟨_,rfl⟩
   obtain ⟨y1,hy1⟩:∃y,u.host.2.2.2.getD 1 0=y:=⟨_,rfl⟩
   obtain ⟨y2,hy2⟩:∃y,u.host.2.2.2.getD 2 0=y:=⟨_,rfl⟩
   obtain ⟨y3,hy3⟩:∃y,u.host.2.2.2.getD 3 0=y:=⟨_,rfl⟩
   obtain ⟨y4,hy4⟩:∃y,u.host.2.2.2.getD 4 0=y:=⟨_,rfl⟩
   obtain ⟨y5,hy5⟩:∃y,u.host.2.2.2.getD 5 0=y:=⟨_,rfl⟩
   obtain ⟨y6,hy6⟩:∃y,u.host.2.2.2.getD 6 0=y:=⟨_,rfl⟩
   obtain ⟨y7,hy7⟩:∃y,u.host.2.2.2.getD 7 0=y:=⟨_,rfl⟩
   have HFs:Hid (∀w',Below w2.heap.size w2 w'→w'.cell? ⟨U,0,none⟩=some (.string (strOf u.sch))∧w'.cell? ⟨U,4,none⟩=some (.int .i64 u.host.1)∧w'.cell? ⟨U,5,none⟩=some (.string (strOf u.host.2.1))∧w'.cell? ⟨U,6,none⟩=some (.int .u32 (u.host.2.2.1:Int))∧w'.cell? ⟨U,7,none⟩=some (.int .u16 (y0:Int))∧w'.cell? ⟨U,8,none⟩=some (.int .u16 (y1:Int))∧w'.cell? ⟨U,9,none⟩=some (.int .u16 (y2:Int))∧w'.cell? ⟨U,10,none⟩=some (.int .u16 (y3:Int))∧w'.cell? ⟨U,11,none⟩=some (.int .u16 (y4:Int))∧w'.cell? ⟨U,12,none⟩=some (.int .u16 (y5:Int))∧w'.cell? ⟨U,13,none⟩=some (.int .u16 (y6:Int))∧w'.cell? ⟨U,14,none⟩=some (.int .u16 (y7:Int))∧w'.cell? ⟨U,15,none⟩=some (.int .i64 u.port)):=by
    intro w' hb
    have h:=HUc.out.below hb
    exact ⟨(h.cell 0 rfl).1,(h.cell 4 rfl).1,(h.cell 5 rfl).1,(h.cell 6 rfl).1,by rw [← hy0];exact (h.cell 7 rfl).1,by rw [← hy1];exact (h.cell 8 rfl).1,by rw [← hy2];exact (h.cell 9 rfl).1,by rw [← hy3];exact (h.cell 10 rfl).1,by rw [← hy4];exact (h.cell 11 rfl).1,by rw [← hy5];exact (h.cell 12 rfl).1,by rw [← hy6];exact (h.cell 13 rfl).1,by rw [← hy7];exact (h.cell 14 rfl).1,(h.cell 15 rfl).1⟩
   have HY:Hid (u.host.2.2.2.getD 0 0=y0∧u.host.2.2.2.getD 1 0=y1∧u.host.2.2.2.getD 2 0=y2∧u.host.2.2.2.getD 3 0=y3∧u.host.2.2.2.getD 4 0=y4∧u.host.2.2.2.getD 5 0=y5∧u.host.2.2.2.getD 6 0=y6∧u.host.2.2.2.getD 7 0=y7):=⟨hy0,hy1,hy2,hy3,hy4,hy5,hy6,hy7⟩
   have HUc0:=HUc
   clear HUc hy0 hy1 hy2 hy3 hy4 hy5 hy6 hy7
   go_upto_region 4 with (refine (HSp.out _).mono ?_;rintro e w1 ⟨rfl,hw⟩;subst hw)
   have HN:Hid (∃N,w1.heap.size=N):=⟨_,rfl⟩
   go_region_held3 (fun w'=>w'.cell? ⟨U,0,none⟩=some (.string (strOf u.sch))∧w'.cell? ⟨U,4,none⟩=some (.int .i64 u.host.1)∧w'.cell? ⟨U,5,none⟩=some (.string (strOf u.host.2.1))∧w'.cell? ⟨U,6,none⟩=some (.int .u32 (u.host.2.2.1:Int))∧w'.cell? ⟨U,7,none⟩=some (.int .u16 (y0:Int))∧w'.cell? ⟨U,8,none⟩=some (.int .u16 (y1:Int))∧w'.cell? ⟨U,9,none⟩=some (.int .u16 (y2:Int))∧w'.cell? ⟨U,10,none⟩=some (.int .u16 (y3:Int))∧w'.cell? ⟨U,11,none⟩=some (.int .u16 (y4:Int))∧w'.cell? ⟨U,12,none⟩=some (.int .u16 (y5:Int))∧w'.cell? ⟨U,13,none⟩=some (.int .u16 (y6:Int))∧w'.cell? ⟨U,14,none⟩=some (.int .u16 (y7:Int))∧w'.cell? ⟨U,15,none⟩=some (.int .i64 u.port)) ((refine HFs.out _ ?_;(try with_reducible refine set13 ?_ ?_);(repeat first
    | exact Below.refl _ _
    | with_reducible refine Below.drew ?_
    | with_reducible refine Below.alloc ?_ ?_ _
    | refine Below.trans ?_ (hby.mono ?_)
    | exact Nat.le_refl _
    | (simp (config:={ failIfUnchanged:=false }) only [World.size_alloc,World.size_drew,World.size_setCell];omega)
    | (have hys:=hby.size;simp (config:={ failIfUnchanged:=false }) only [World.size_alloc,World.size_drew,World.size_setCell] at hys ⊢;omega)))) ((go_at_call 26;refine (HC1.out _).mono ?_;rintro e wy ⟨rfl,hby⟩;first | (have hbz:Below (w1.alloc (.cells #[.string ⟨#[]⟩,.int .i64 0,.string ⟨#[]⟩,.int .u32 0,.int .u16 0,.int .u16 0,.int .u16 0,.int .u16 0,.int .u16 0,.int .u16 0,.int .u16 0,.int .u16 0,.int .i64 0] OT)).drew.heap.size (w1.alloc (.cells #[.string ⟨#[]⟩,.int .i64 0,.string ⟨#[]⟩,.int .u32 0,.int .u16 0,.int .u16 0,.int .u16 0,.int .u16 0,.int .u16 0,.int .u16 0,.int .u16 0,.int .u16 0,.int .i64 0] OT)).drew wy:=(by with_reducible assumption);have hnf:=newF hbz;clear hbz;obtain ⟨nc0,nf0,nc1,nf1,nc2,nf2,nc3,nf3,nc4,nf4,nc5,nf5,nc6,nf6,nc7,nf7,nc8,nf8,nc9,nf9,nc10,nf10,nc11,nf11,nc12,nf12⟩:=hnf) | skip))
   ·have HNx:Hid (Bc OT (wy.alloc (.cells #[.string (strOf u.sch),.int .i64 u.host.1,.string (strOf u.host.2.1),.int .u32 (u.host.2.2.1:Int),.int .u16 (y0:Int),.int .u16 (y1:Int),.int .u16 (y2:Int),.int .u16 (y3:Int),.int .u16 (y4:Int),.int .u16 (y5:Int),.int .u16 (y6:Int),.int .u16 (y7:Int),.int .i64 u.port] OT)) wy.heap.size [.string (strOf u.sch),.int .i64 u.host.1,.string (strOf u.host.2.1),.int .u32 (u.host.2.2.1:Int),.int .u16 (y0:Int),.int .u16 (y1:Int),.int .u16 (y2:Int),.int .u16 (y3:Int),.int .u16 (y4:Int),.int .u16 (y5:Int),.int .u16 (y6:Int),.int .u16 (y7:Int),.int .i64 u.port]):=hid (heap_alloc_new wy _)
    have HUx:Hid (Bc UT (wy.alloc (.cells #[.string (strOf u.sch),.int .i64 u.host.1,.string (strOf u.host.2.1),.int .u32 (u.host.2.2.1:Int),.int .u16 (y0:Int),.int .u16 (y1:Int),.int .u16 (y2:Int),.int .u16 (y3:Int),.int .u16 (y4:Int),.int .u16 (y5:Int),.int .u16 (y6:Int),.int .u16 (y7:Int),.int .i64 u.port] OT)) U (urlC u pv)):=hid (HUc0.out.below ((((Below.refl _ _).drew).trans hby).alloc (by have:=hby.size;simpa using this) (.cells #[.string (strOf u.sch),.int .i64 u.host.1,.string (strOf u.host.2.1),.int .u32 (u.host.2.2.1:Int),.int .u16 (y0:Int),.int .u16 (y1:Int),.int .u16 (y2:Int),.int .u16 (y3:Int),.int .u16 (y4:Int),.int .u16 (y5:Int),.int .u16 (y6:Int),.int .u16 (y7:Int),.int .i64 u.port] OT)))
    have HRx:Hid (Bc OT (wy.alloc (.cells #[.string (strOf u.sch),.int .i64 u.host.1,.string (strOf u.host.2.1),.int .u32 (u.host.2.2.1:Int),.int .u16 (y0:Int),.int .u16 (y1:Int),.int .u16 (y2:Int),.int .u16 (y3:Int),.int .u16 (y4:Int),.int .u16 (y5:Int),.int .u16 (y6:Int),.int .u16 (y7:Int),.int .i64 u.port] OT)) R (orgC org0)):=hid (HRc.out.below ((((Below.refl _ _).drew).trans hby).alloc (by have:=hby.size;simpa using this) (.cells #[.string (strOf u.sch),.int .i64 u.host.1,.string (strOf u.host.2.1),.int .u32 (u.host.2.2.1:Int),.int .u16 (y0:Int),.int .u16 (y1:Int),.int .u16 (y2:Int),.int .u16 (y3:Int),.int .u16 (y4:Int),.int .u16 (y5:Int),.int .u16 (y6:Int),.int .u16 (y7:Int),.int .i64 u.port] OT)))
    have HBx:Hid (Below U w (wy.alloc (.cells #[.string (strOf u.sch),.int .i64 u.host.1,.string (strOf u.host.2.1),.int .u32 (u.host.2.2.1:Int),.int .u16 (y0:Int),.int .u16 (y1:Int),.int .u16 (y2:Int),.int .u16 (y3:Int),.int .u16 (y4:Int),.int .u16 (y5:Int),.int .u16 (y6:Int),.int .u16 (y7:Int),.int .i64 u.port] OT))):=hid (HBl.out.trans (Below.mono ((((Below.refl _ _).drew).trans hby).alloc (by have:=hby.size;simpa using this) (.cells #[.string (strOf u.sch),.int .i64 u.host.1,.string (strOf u.host.2.1),.int .u32 (u.host.2.2.1:Int),.int .u16 (y0:Int),.int .u16 (y1:Int),.int .u16 (y2:Int),.int .u16 (y3:Int),.int .u16 (y4:Int),.int .u16 (y5:Int),.int .u16 (y6:Int),.int .u16 (y7:Int),.int .i64 u.port] OT)) (Nat.le_of_lt HUc0.out.lt)))
    have HNs:Hid (U < w1.heap.size∧R < w1.heap.size∧w1.heap.size≤wy.heap.size):=hid ⟨HUc0.out.lt,HRc.out.lt,by have:=hby.size;simpa using this⟩
    clear hby
    generalize (wy.alloc (.cells #[.string (strOf u.sch),.int .i64 u.host.1,.string (strOf u.host.2.1),.int .u32 (u.host.2.2.1:Int),.int .u16 (y0:Int),.int .u16 (y1:Int),.int .u16 (y2:Int),.int .u16 (y3:Int),.int .u16 (y4:Int),.int .u16 (y5:Int),.int .u16 (y6:Int),.int .u16 (y7:Int),.int .i64 u.port] OT))=wx at *
    generalize wy.heap.size=N at *
    have HNR:Hid (R≠N):=by have h:=HNs.out;show _≠_;omega
    have HUN:Hid (U≤N):=by have h:=HNs.out;show _≤_;omega
    have x5:=(HUx.out.cell 5 rfl).1
    go_wp2_with fail
    refine (HC2.out _).mono ?_
    rintro e wz ⟨rfl,hbz⟩
    have HNz:=hid (HNx.out.below hbz)
    have HRz:=hid (HRx.out.below hbz)
    have HBz:=hid (HBx.out.trans (hbz.mono (by rw [← HUR.out.1];exact HBx.out.size)))
    clear hbz x5
    have HNz2:=hid (HNz.out.set 2 (.string (strOf u.host.2.1)))
    have HRz2:Hid (Bc OT (wz.setCell ⟨N,2,none⟩ (.string (strOf u.host.2.1))) R (orgC org0)):=hid (HRz.out.kept (heap_setCell_other wz _ _ _ HNR.out))
    have HBz2:Hid (Below U w (wz.setCell ⟨N,2,none⟩ (.string (strOf u.host.2.1)))):=hid (HBz.out.setCell (p:=⟨N,2,none⟩) HUN.out _)
    have n2:=(HNz.out.cell 2 rfl).1
    have m2:=(HNz.out.cell 2 rfl).2
    have n12:=(HNz2.out.cell 12 rfl).1
    have m12:=(HNz2.out.cell 12 rfl).2
    clear HNz HRz HBz HNx HRx HBx HUx
    rcases HP.out with ⟨e1,hp⟩ | ⟨e1,hp⟩
    ·subst hp
     clear HP
     go_upto_region 8 with fail
     try clear n2
     try clear m2
     try clear n12
     try clear m12
     generalize wz.setCell ⟨N,2,none⟩ (.string (strOf u.host.2.1))=wv at *
     have HT:=hid (org_there HRz2.out)
     have HS:Hid (Bc OT (wv.setCells R 0 [.string (strOf u.sch),.int .i64 u.host.1,.string (strOf u.host.2.1),.int .u32 (u.host.2.2.1:Int),.int .u16 (y0:Int),.int .u16 (y1:Int),.int .u16 (y2:Int),.int .u16 (y3:Int),.int .u16 (y4:Int),.int .u16 (y5:Int),.int .u16 (y6:Int),.int .u16 (y7:Int),.int .i64 u.port]) R (orgC (u.sch,u.host,u.port))∧Below U wv (wv.setCells R 0 [.string (strOf u.sch),.int .i64 u.host.1,.string (strOf u.host.2.1),.int .u32 (u.host.2.2.1:Int),.int .u16 (y0:Int),.int .u16 (y1:Int),.int .u16 (y2:Int),.int .u16 (y3:Int),.int .u16 (y4:Int),.int .u16 (y5:Int),.int .u16 (y6:Int),.int .u16 (y7:Int),.int .i64 u.port])):=by
      have:=org_store (p:=(u.sch,u.host,u.port)) HRz2.out HUR.out.2.2
      have hy:=HY.out
      simp only [orgC,u16v,hy] at this ⊢
      exact this
     have HLd:Hid (wv.rangeAt N 0 [.string (strOf u.sch),.int .i64 u.host.1,.string (strOf u.host.2.1),.int .u32 (u.host.2.2.1:Int),.int .u16 (y0:Int),.int .u16 (y1:Int),.int .u16 (y2:Int),.int .u16 (y3:Int),.int .u16 (y4:Int),.int .u16 (y5:Int),.int .u16 (y6:Int),.int .u16 (y7:Int),.int .i64 u.port]):=hid (fun j v hv=>by rw [Nat.zero_add];exact (HNz2.out.cell j hv).1)
     have HO1:Hid ((#[.string (strOf u.sch),.int .i64 u.host.1,.string (strOf u.host.2.1),.int .u32 (u.host.2.2.1:Int),.int .u16 (y0:Int),.int .u16 (y1:Int),.int .u16 (y2:Int),.int .u16 (y3:Int),.int .u16 (y4:Int),.int .u16 (y5:Int),.int .u16 (y6:Int),.int .u16 (y7:Int),.int .i64 u.port]:Array Value).all (·.oneCell')=true):=hid (all_oneCell_toArray (List.all_eq_true.1 rfl))
     go_wp2_with (first | refine wpList_load_mid rfl 35 _ rfl N 0 rfl [.string (strOf u.sch),.int .i64 u.host.1,.string (strOf u.host.2.1),.int .u32 (u.host.2.2.1:Int),.int .u16 (y0:Int),.int .u16 (y1:Int),.int .u16 (y2:Int),.int .u16 (y3:Int),.int .u16 (y4:Int),.int .u16 (y5:Int),.int .u16 (y6:Int),.int .u16 (y7:Int),.int .i64 u.port] _ HLd.out Tryz.underlying35 rfl info_org ?_ | (refine wpList_store_mid rfl 35 _ _ rfl R 0 #[.string (strOf u.sch),.int .i64 u.host.1,.string (strOf u.host.2.1),.int .u32 (u.host.2.2.1:Int),.int .u16 (y0:Int),.int .u16 (y1:Int),.int .u16 (y2:Int),.int .u16 (y3:Int),.int .u16 (y4:Int),.int .u16 (y5:Int),.int .u16 (y6:Int),.int .u16 (y7:Int),.int .i64 u.port] rfl rfl HT.out info_org HO1.out ?_;try simp only [List.toList_toArray];generalize World.setCells wv R 0 _=w3 at *))
     refine bodyPost_ret (results_ct Tryz.results11 rfl (org_load HS.out.1) rfl) rfl ?_
     refine ⟨by rw [HX.out];rfl,?_⟩
     rw [HUR.out.1]
     exact HBz2.out.trans HS.out.2
    ·subst hp
     clear HP
     have HNz3:=hid (HNz2.out.set 12 (.int .i64 (sp:Int)))
     have HRz3:=hid (HRz2.out.kept (heap_setCell_other _ ⟨N,12,none⟩ _ (.int .i64 (sp:Int)) HNR.out))
     have HBz3:=hid (HBz2.out.setCell (p:=⟨N,12,none⟩) HUN.out (.int .i64 (sp:Int)))
     go_upto_region 8 with fail
     try clear n2
     try clear m2
     try clear n12
     try clear m12
     clear HNz2 HRz2 HBz2
     generalize (wz.setCell ⟨N,2,none⟩ (.string (strOf u.host.2.1))).setCell ⟨N,12,none⟩ (.int .i64 (sp:Int))=wv at *
     have HT:=hid (org_there HRz3.out)
     have HS:Hid (Bc OT (wv.setCells R 0 [.string (strOf u.sch),.int .i64 u.host.1,.string (strOf u.host.2.1),.int .u32 (u.host.2.2.1:Int),.int .u16 (y0:Int),.int .u16 (y1:Int),.int .u16 (y2:Int),.int .u16 (y3:Int),.int .u16 (y4:Int),.int .u16 (y5:Int),.int .u16 (y6:Int),.int .u16 (y7:Int),.int .i64 (sp:Int)]) R (orgC (u.sch,u.host,(sp:Int)))∧Below U wv (wv.setCells R 0 [.string (strOf u.sch),.int .i64 u.host.1,.string (strOf u.host.2.1),.int .u32 (u.host.2.2.1:Int),.int .u16 (y0:Int),.int .u16 (y1:Int),.int .u16 (y2:Int),.int .u16 (y3:Int),.int .u16 (y4:Int),.int .u16 (y5:Int),.int .u16 (y6:Int),.int .u16 (y7:Int),.int .i64 (sp:Int)])):=by
      have:=org_store (p:=(u.sch,u.host,(sp:Int))) HRz3.out HUR.out.2.2
      have hy:=HY.out
      simp only [orgC,u16v,hy] at this ⊢
      exact this
     have HLd:Hid (wv.rangeAt N 0 [.string (strOf u.sch),.int .i64 u.host.1,.string (strOf u.host.2.1),.int .u32 (u.host.2.2.1:Int),.int .u16 (y0:Int),.int .u16 (y1:Int),.int .u16 (y2:Int),.int .u16 (y3:Int),.int .u16 (y4:Int),.int .u16 (y5:Int),.int .u16 (y6:Int),.int .u16 (y7:Int),.int .i64 (sp:Int)]):=hid (fun j v hv=>by rw [Nat.zero_add];exact (HNz3.out.cell j hv).1)
     have HO1:Hid ((#[.string (strOf u.sch),.int .i64 u.host.1,.string (strOf u.host.2.1),.int .u32 (u.host.2.2.1:Int),.int .u16 (y0:Int),.int .u16 (y1:Int),.int .u16 (y2:Int),.int .u16 (y3:Int),.int .u16 (y4:Int),.int .u16 (y5:Int),.int .u16 (y6:Int),.int .u16 (y7:Int),.int .i64 (sp:Int)]:Array Value).all (·.oneCell')=true):=hid (all_oneCell_toArray (List.all_eq_true.1 rfl))
     go_wp2_with (first | refine wpList_load_mid rfl 35 _ rfl N 0 rfl [.string (strOf u.sch),.int .i64 u.host.1,.string (strOf u.host.2.1),.int .u32 (u.host.2.2.1:Int),.int .u16 (y0:Int),.int .u16 (y1:Int),.int .u16 (y2:Int),.int .u16 (y3:Int),.int .u16 (y4:Int),.int .u16 (y5:Int),.int .u16 (y6:Int),.int .u16 (y7:Int),.int .i64 (sp:Int)] _ HLd.out Tryz.underlying35 rfl info_org ?_ | (refine wpList_store_mid rfl 35 _ _ rfl R 0 #[.string (strOf u.sch),.int .i64 u.host.1,.string (strOf u.host.2.1),.int .u32 (u.host.2.2.1:Int),.int .u16 (y0:Int),.int .u16 (y1:Int),.int .u16 (y2:Int),.int .u16 (y3:Int),.int .u16 (y4:Int),.int .u16 (y5:Int),.int .u16 (y6:Int),.int .u16 (y7:Int),.int .i64 (sp:Int)] rfl rfl HT.out info_org HO1.out ?_;try simp only [List.toList_toArray];generalize World.setCells wv R 0 _=w3 at *))
     refine bodyPost_ret (results_ct Tryz.results11 rfl (org_load HS.out.1) rfl) rfl ?_
     refine ⟨by rw [HX.out];rfl,?_⟩
     rw [HUR.out.1]
     exact HBz3.out.trans HS.out.2
   ·have HN0:Hid (Bc OT wy w1.heap.size (orgC org0)):=hid (Bc.below (w:=(w1.alloc (.cells #[.string ⟨#[]⟩,.int .i64 0,.string ⟨#[]⟩,.int .u32 0,.int .u16 0,.int .u16 0,.int .u16 0,.int .u16 0,.int .u16 0,.int .u16 0,.int .u16 0,.int .u16 0,.int .i64 0] OT)).drew) (heap_alloc_new w1 _) hby)
    have HNx:Hid (Bc OT (((((((((((((wy.setCell ⟨w1.heap.size,0,none⟩ (.string (strOf u.sch))).setCell ⟨w1.heap.size,1,none⟩ (.int .i64 u.host.1)).setCell ⟨w1.heap.size,2,none⟩ (.string (strOf u.host.2.1))).setCell ⟨w1.heap.size,3,none⟩ (.int .u32 (u.host.2.2.1:Int))).setCell ⟨w1.heap.size,4,none⟩ (.int .u16 (y0:Int))).setCell ⟨w1.heap.size,5,none⟩ (.int .u16 (y1:Int))).setCell ⟨w1.heap.size,6,none⟩ (.int .u16 (y2:Int))).setCell ⟨w1.heap.size,7,none⟩ (.int .u16 (y3:Int))).setCell ⟨w1.heap.size,8,none⟩ (.int .u16 (y4:Int))).setCell ⟨w1.heap.size,9,none⟩ (.int .u16 (y5:Int))).setCell ⟨w1.heap.size,10,none⟩ (.int .u16 (y6:Int))).setCell ⟨w1.heap.size,11,none⟩ (.int .u16 (y7:Int))).setCell ⟨w1.heap.size,12,none⟩ (.int .i64 u.port)) w1.heap.size [.string (strOf u.sch),.int .i64 u.host.1,.string (strOf u.host.2.1),.int .u32 (u.host.2.2.1:Int),.int .u16 (y0:Int),.int .u16 (y1:Int),.int .u16 (y2:Int),.int .u16 (y3:Int),.int .u16 (y4:Int),.int .u16 (y5:Int),.int .u16 (y6:Int),.int .u16 (y7:Int),.int .i64 u.port]):=hid (((((((((((((HN0.out.set 0 (.string (strOf u.sch))).set 1 (.int .i64 u.host.1)).set 2 (.string (strOf u.host.2.1))).set 3 (.int .u32 (u.host.2.2.1:Int))).set 4 (.int .u16 (y0:Int))).set 5 (.int .u16 (y1:Int))).set 6 (.int .u16 (y2:Int))).set 7 (.int .u16 (y3:Int))).set 8 (.int .u16 (y4:Int))).set 9 (.int .u16 (y5:Int))).set 10 (.int .u16 (y6:Int))).set 11 (.int .u16 (y7:Int))).set 12 (.int .i64 u.port))
    have HUx:Hid (Bc UT (((((((((((((wy.setCell ⟨w1.heap.size,0,none⟩ (.string (strOf u.sch))).setCell ⟨w1.heap.size,1,none⟩ (.int .i64 u.host.1)).setCell ⟨w1.heap.size,2,none⟩ (.string (strOf u.host.2.1))).setCell ⟨w1.heap.size,3,none⟩ (.int .u32 (u.host.2.2.1:Int))).setCell ⟨w1.heap.size,4,none⟩ (.int .u16 (y0:Int))).setCell ⟨w1.heap.size,5,none⟩ (.int .u16 (y1:Int))).setCell ⟨w1.heap.size,6,none⟩ (.int .u16 (y2:Int))).setCell ⟨w1.heap.size,7,none⟩ (.int .u16 (y3:Int))).setCell ⟨w1.heap.size,8,none⟩ (.int .u16 (y4:Int))).setCell ⟨w1.heap.size,9,none⟩ (.int .u16 (y5:Int))).setCell ⟨w1.heap.size,10,none⟩ (.int .u16 (y6:Int))).setCell ⟨w1.heap.size,11,none⟩ (.int .u16 (y7:Int))).setCell ⟨w1.heap.size,12,none⟩ (.int .i64 u.port)) U (urlC u pv)):=hid (HUc0.out.below (set13 (k:=w1.heap.size) ((((Below.refl _ _).alloc (Nat.le_refl _) (.cells #[.string ⟨#[]⟩,.int .i64 0,.string ⟨#[]⟩,.int .u32 0,.int .u16 0,.int .u16 0,.int .u16 0,.int .u16 0,.int .u16 0,.int .u16 0,.int .u16 0,.int .u16 0,.int .i64 0] OT)).drew).trans (hby.mono (by simp))) (Nat.le_refl _)))
    have HRx:Hid (Bc OT (((((((((((((wy.setCell ⟨w1.heap.size,0,none⟩ (.string (strOf u.sch))).setCell ⟨w1.heap.size,1,none⟩ (.int .i64 u.host.1)).setCell ⟨w1.heap.size,2,none⟩ (.string (strOf u.host.2.1))).setCell ⟨w1.heap.size,3,none⟩ (.int .u32 (u.host.2.2.1:Int))).setCell ⟨w1.heap.size,4,none⟩ (.int .u16 (y0:Int))).setCell ⟨w1.heap.size,5,none⟩ (.int .u16 (y1:Int))).setCell ⟨w1.heap.size,6,none⟩ (.int .u16 (y2:Int))).setCell ⟨w1.heap.size,7,none⟩ (.int .u16 (y3:Int))).setCell ⟨w1.heap.size,8,none⟩ (.int .u16 (y4:Int))).setCell ⟨w1.heap.size,9,none⟩ (.int .u16 (y5:Int))).setCell ⟨w1.heap.size,10,none⟩ (.int .u16 (y6:Int))).setCell ⟨w1.heap.size,11,none⟩ (.int .u16 (y7:Int))).setCell ⟨w1.heap.size,12,none⟩ (.int .i64 u.port)) R (orgC org0)):=hid (HRc.out.below (set13 (k:=w1.heap.size) ((((Below.refl _ _).alloc (Nat.le_refl _) (.cells #[.string ⟨#[]⟩,.int .i64 0,.string ⟨#[]⟩,.int .u32 0,.int .u16 0,.int .u16 0,.int .u16 0,.int .u16 0,.int .u16 0,.int .u16 0,.int .u16 0,.int .u16 0,.int .i64 0] OT)).drew).trans (hby.mono (by simp))) (Nat.le_refl _)))
    have HBx:Hid (Below U w (((((((((((((wy.setCell ⟨w1.heap.size,0,none⟩ (.string (strOf u.sch))).setCell ⟨w1.heap.size,1,none⟩ (.int .i64 u.host.1)).setCell ⟨w1.heap.size,2,none⟩ (.string (strOf u.host.2.1))).setCell ⟨w1.heap.size,3,none⟩ (.int .u32 (u.host.2.2.1:Int))).setCell ⟨w1.heap.size,4,none⟩ (.int .u16 (y0:Int))).setCell ⟨w1.heap.size,5,none⟩ (.int .u16 (y1:Int))).setCell ⟨w1.heap.size,6,none⟩ (.int .u16 (y2:Int))).setCell ⟨w1.heap.size,7,none⟩ (.int .u16 (y3:Int))).setCell ⟨w1.heap.size,8,none⟩ (.int .u16 (y4:Int))).setCell ⟨w1.heap.size,9,none⟩ (.int .u16 (y5:Int))).setCell ⟨w1.heap.size,10,none⟩ (.int .u16 (y6:Int))).setCell ⟨w1.heap.size,11,none⟩ (.int .u16 (y7:Int))).setCell ⟨w1.heap.size,12,none⟩ (.int .i64 u.port))):=hid (HBl.out.trans (Below.mono (set13 (k:=w1.heap.size) ((((Below.refl _ _).alloc (Nat.le_refl _) (.cells #[.string ⟨#[]⟩,.int .i64 0,.string ⟨#[]⟩,.int .u32 0,.int .u16 0,.int .u16 0,.int .u16 0,.int .u16 0,.int .u16 0,.int .u16 0,.int .u16 0,.int .u16 0,.int .i64 0] OT)).drew).trans (hby.mono (by simp))) (Nat.le_refl _)) (Nat.le_of_lt HUc0.out.lt)))
    have HNs:Hid (U < w1.heap.size∧R < w1.heap.size∧w1.heap.size≤w1.heap.size):=hid ⟨HUc0.out.lt,HRc.out.lt,Nat.le_refl _⟩
    clear hby HN0
    try clear nf0
    generalize (((((((((((((wy.setCell ⟨w1.heap.size,0,none⟩ (.string (strOf u.sch))).setCell ⟨w1.heap.size,1,none⟩ (.int .i64 u.host.1)).setCell ⟨w1.heap.size,2,none⟩ (.string (strOf u.host.2.1))).setCell ⟨w1.heap.size,3,none⟩ (.int .u32 (u.host.2.2.1:Int))).setCell ⟨w1.heap.size,4,none⟩ (.int .u16 (y0:Int))).setCell ⟨w1.heap.size,5,none⟩ (.int .u16 (y1:Int))).setCell ⟨w1.heap.size,6,none⟩ (.int .u16 (y2:Int))).setCell ⟨w1.heap.size,7,none⟩ (.int .u16 (y3:Int))).setCell ⟨w1.heap.size,8,none⟩ (.int .u16 (y4:Int))).setCell ⟨w1.heap.size,9,none⟩ (.int .u16 (y5:Int))).setCell ⟨w1.heap.size,10,none⟩ (.int .u16 (y6:Int))).setCell ⟨w1.heap.size,11,none⟩ (.int .u16 (y7:Int))).setCell ⟨w1.heap.size,12,none⟩ (.int .i64 u.port))=wx at *
    generalize w1.heap.size=N at *
    have HNR:Hid (R≠N):=by have h:=HNs.out;show _≠_;omega
    have HUN:Hid (U≤N):=by have h:=HNs.out;show _≤_;omega
    have x5:=(HUx.out.cell 5 rfl).1
    go_wp2_with fail
    refine (HC2.out _).mono ?_
    rintro e wz ⟨rfl,hbz⟩
    have HNz:=hid (HNx.out.below hbz)
    have HRz:=hid (HRx.out.below hbz)
    have HBz:=hid (HBx.out.trans (hbz.mono (by rw [← HUR.out.1];exact HBx.out.size)))
    clear hbz x5
    have HNz2:=hid (HNz.out.set 2 (.string (strOf u.host.2.1)))
    have HRz2:Hid (Bc OT (wz.setCell ⟨N,2,none⟩ (.string (strOf u.host.2.1))) R (orgC org0)):=hid (HRz.out.kept (heap_setCell_other wz _ _ _ HNR.out))
    have HBz2:Hid (Below U w (wz.setCell ⟨N,2,none⟩ (.string (strOf u.host.2.1)))):=hid (HBz.out.setCell (p:=⟨N,2,none⟩) HUN.out _)
    have n2:=(HNz.out.cell 2 rfl).1
    have m2:=(HNz.out.cell 2 rfl).2
    have n12:=(HNz2.out.cell 12 rfl).1
    have m12:=(HNz2.out.cell 12 rfl).2
    clear HNz HRz HBz HNx HRx HBx HUx
    rcases HP.out with ⟨e1,hp⟩ | ⟨e1,hp⟩
    ·subst hp
     clear HP
     go_upto_region 8 with fail
     try clear n2
     try clear m2
     try clear n12
     try clear m12
     generalize wz.setCell ⟨N,2,none⟩ (.string (strOf u.host.2.1))=wv at *
     have HT:=hid (org_there HRz2.out)
     have HS:Hid (Bc OT (wv.setCells R 0 [.string (strOf u.sch),.int .i64 u.host.1,.string (strOf u.host.2.1),.int .u32 (u.host.2.2.1:Int),.int .u16 (y0:Int),.int .u16 (y1:Int),.int .u16 (y2:Int),.int .u16 (y3:Int),.int .u16 (y4:Int),.int .u16 (y5:Int),.int .u16 (y6:Int),.int .u16 (y7:Int),.int .i64 u.port]) R (orgC (u.sch,u.host,u.port))∧Below U wv (wv.setCells R 0 [.string (strOf u.sch),.int .i64 u.host.1,.string (strOf u.host.2.1),.int .u32 (u.host.2.2.1:Int),.int .u16 (y0:Int),.int .u16 (y1:Int),.int .u16 (y2:Int),.int .u16 (y3:Int),.int .u16 (y4:Int),.int .u16 (y5:Int),.int .u16 (y6:Int),.int .u16 (y7:Int),.int .i64 u.port])):=by
      have:=org_store (p:=(u.sch,u.host,u.port)) HRz2.out HUR.out.2.2
      have hy:=HY.out
      simp only [orgC,u16v,hy] at this ⊢
      exact this
     have HLd:Hid (wv.rangeAt N 0 [.string (strOf u.sch),.int .i64 u.host.1,.string (strOf u.host.2.1),.int .u32 (u.host.2.2.1:Int),.int .u16 (y0:Int),.int .u16 (y1:Int),.int .u16 (y2:Int),.int .u16 (y3:Int),.int .u16 (y4:Int),.int .u16 (y5:Int),.int .u16 (y6:Int),.int .u16 (y7:Int),.int .i64 u.port]):=hid (fun j v hv=>by rw [Nat.zero_add];exact (HNz2.out.cell j hv).1)
     have HO1:Hid ((#[.string (strOf u.sch),.int .i64 u.host.1,.string (strOf u.host.2.1),.int .u32 (u.host.2.2.1:Int),.int .u16 (y0:Int),.int .u16 (y1:Int),.int .u16 (y2:Int),.int .u16 (y3:Int),.int .u16 (y4:Int),.int .u16 (y5:Int),.int .u16 (y6:Int),.int .u16 (y7:Int),.int .i64 u.port]:Array Value).all (·.oneCell')=true):=hid (all_oneCell_toArray (List.all_eq_true.1 rfl))
     go_wp2_with (first | refine wpList_load_mid rfl 35 _ rfl N 0 rfl [.string (strOf u.sch),.int .i64 u.host.1,.string (strOf u.host.2.1),.int .u32 (u.host.2.2.1:Int),.int .u16 (y0:Int),.int .u16 (y1:Int),.int .u16 (y2:Int),.int .u16 (y3:Int),.int .u16 (y4:Int),.int .u16 (y5:Int),.int .u16 (y6:Int),.int .u16 (y7:Int),.int .i64 u.port] _ HLd.out Tryz.underlying35 rfl info_org ?_ | (refine wpList_store_mid rfl 35 _ _ rfl R 0 #[.string (strOf u.sch),.int .i64 u.host.1,.string (strOf u.host.2.1),.int .u32 (u.host.2.2.1:Int),.int .u16 (y0:Int),.int .u16 (y1:Int),.int .u16 (y2:Int),.int .u16 (y3:Int),.int .u16 (y4:Int),.int .u16 (y5:Int),.int .u16 (y6:Int),.int .u16 (y7:Int),.int .i64 u.port] rfl rfl HT.out info_org HO1.out ?_;try simp only [List.toList_toArray];generalize World.setCells wv R 0 _=w3 at *))
     refine bodyPost_ret (results_ct Tryz.results11 rfl (org_load HS.out.1) rfl) rfl ?_
     refine ⟨by rw [HX.out];rfl,?_⟩
     rw [HUR.out.1]
     exact HBz2.out.trans HS.out.2
    ·subst hp
     clear HP
     have HNz3:=hid (HNz2.out.set 12 (.int .i64 (sp:Int)))
     have HRz3:=hid (HRz2.out.kept (heap_setCell_other _ ⟨N,12,none⟩ _ (.int .i64 (sp:Int)) HNR.out))
     have HBz3:=hid (HBz2.out.setCell (p:=⟨N,12,none⟩) HUN.out (.int .i64 (sp:Int)))
     go_upto_region 8 with fail
     try clear n2
     try clear m2
     try clear n12
     try clear m12
     clear HNz2 HRz2 HBz2
     generalize (wz.setCell ⟨N,2,none⟩ (.string (strOf u.host.2.1))).setCell ⟨N,12,none⟩ (.int .i64 (sp:Int))=wv at *
     have HT:=hid (org_there HRz3.out)
     have HS:Hid (Bc OT (wv.setCells R 0 [.string (strOf u.sch),.int .i64 u.host.1,.string (strOf u.host.2.1),.int .u32 (u.host.2.2.1:Int),.int .u16 (y0:Int),.int .u16 (y1:Int),.int .u16 (y2:Int),.int .u16 (y3:Int),.int .u16 (y4:Int),.int .u16 (y5:Int),.int .u16 (y6:Int),.int .u16 (y7:Int),.int .i64 (sp:Int)]) R (orgC (u.sch,u.host,(sp:Int)))∧Below U wv (wv.setCells R 0 [.string (strOf u.sch),.int .i64 u.host.1,.string (strOf u.host.2.1),.int .u32 (u.host.2.2.1:Int),.int .u16 (y0:Int),.int .u16 (y1:Int),.int .u16 (y2:Int),.int .u16 (y3:Int),.int .u16 (y4:Int),.int .u16 (y5:Int),.int .u16 (y6:Int),.int .u16 (y7:Int),.int .i64 (sp:Int)])):=by
      have:=org_store (p:=(u.sch,u.host,(sp:Int))) HRz3.out HUR.out.2.2
      have hy:=HY.out
      simp only [orgC,u16v,hy] at this ⊢
      exact this
     have HLd:Hid (wv.rangeAt N 0 [.string (strOf u.sch),.int .i64 u.host.1,.string (strOf u.host.2.1),.int .u32 (u.host.2.2.1:Int),.int .u16 (y0:Int),.int .u16 (y1:Int),.int .u16 (y2:Int),.int .u16 (y3:Int),.int .u16 (y4:Int),.int .u16 (y5:Int),.int .u16 (y6:Int),.int .u16 (y7:Int),.int .i64 (sp:Int)]):=hid (fun j v hv=>by rw [Nat.zero_add];exact (HNz3.out.cell j hv).1)
     have HO1:Hid ((#[.string (strOf u.sch),.int .i64 u.host.1,.string (strOf u.host.2.1),.int .u32 (u.host.2.2.1:Int),.int .u16 (y0:Int),.int .u16 (y1:Int),.int .u16 (y2:Int),.int .u16 (y3:Int),.int .u16 (y4:Int),.int .u16 (y5:Int),.int .u16 (y6:Int),.int .u16 (y7:Int),.int .i64 (sp:Int)]:Array Value).all (·.oneCell')=true):=hid (all_oneCell_toArray (List.all_eq_true.1 rfl))
     go_wp2_with (first | refine wpList_load_mid rfl 35 _ rfl N 0 rfl [.string (strOf u.sch),.int .i64 u.host.1,.string (strOf u.host.2.1),.int .u32 (u.host.2.2.1:Int),.int .u16 (y0:Int),.int .u16 (y1:Int),.int .u16 (y2:Int),.int .u16 (y3:Int),.int .u16 (y4:Int),.int .u16 (y5:Int),.int .u16 (y6:Int),.int .u16 (y7:Int),.int .i64 (sp:Int)] _ HLd.out Tryz.underlying35 rfl info_org ?_ | (refine wpList_store_mid rfl 35 _ _ rfl R 0 #[.string (strOf u.sch),.int .i64 u.host.1,.string (strOf u.host.2.1),.int .u32 (u.host.2.2.1:Int),.int .u16 (y0:Int),.int .u16 (y1:Int),.int .u16 (y2:Int),.int .u16 (y3:Int),.int .u16 (y4:Int),.int .u16 (y5:Int),.int .u16 (y6:Int),.int .u16 (y7:Int),.int .i64 (sp:Int)] rfl rfl HT.out info_org HO1.out ?_;try simp only [List.toList_toArray];generalize World.setCells wv R 0 _=w3 at *))
     refine bodyPost_ret (results_ct Tryz.results11 rfl (org_load HS.out.1) rfl) rfl ?_
     refine ⟨by rw [HX.out];rfl,?_⟩
     rw [HUR.out.1]
     exact HBz3.out.trans HS.out.2
end Go.Proofs.YtigfgloenjoeoaaGreatDoor
