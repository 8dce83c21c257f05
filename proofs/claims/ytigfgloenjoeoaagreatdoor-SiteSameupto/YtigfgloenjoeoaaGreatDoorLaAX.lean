import Derived.Test.YtigfgloenjoeoaaGreatDoorLaAW
set_option linter.unusedVariables false
set_option linter.unusedSimpArgs false
set_option maxRecDepth 20000
set_option maxHeartbeats 16000000
namespace Go.Proofs.YtigfgloenjoeoaaGreatDoor
def Fresh (m:MaR):Prop:=∃l,m.u={ urlM with sch:=l }
def Sim (x:RdP) (m:MaR) (s:Nat):Prop :=
 if s≤8 then x.m=m∧x.us=[]∧x.ps=[]∧Fresh m∧(s≠1→m.buf=[])
 else if s=9 then m={ x.m with u:={ x.m.u with usr:=partsN 6 x.us,pas:=partsN 6 x.ps } }∧x.m.u.port=-1
 else if s=10∨s=11 then x.m=m∧m.u.port=-1
 else if s=12 then x.m=m∧m.buf=[]
 else if s=14 then m={ x.m with buf:=[],u:={ x.m.u with txt:=partsN 1 x.m.buf } }
 else if s=15 then x.m=m∧m.u.qry=[]
 else if s=16 then m={ x.m with buf:=[],u:={ x.m.u with frg:=partsN 2 x.m.buf } }
 else x.m=m
def Alike (r:MvP) (q:StR):Prop:=r.2.2.2=q.2.2.2∧(q.2.2.2=0→r.2.1=q.2.1∧Sim (behP r) (behM q) q.2.1)
theorem enc_parts (set:Int) (l:List Int):encU set l=partsN set l:=(parts_eq set l).symm
theorem ends_eq {c:Int} (h:-1≤c) (m:MaR):endsM m c=endsA m c:=by
 unfold endsM endsA endsB
 congr 1;congr 1;congr 1
 by_cases h0:c=-1
 ·subst h0;rfl
 ·rw [decide_eq_false (by omega),beq_eq_false_iff_ne.2 h0]
theorem parts_snoc (set:Int) (l:List Int) (c:Int):partsN set (l++[c])=partsN set l++partN set c:=by simp [partsN]
theorem cred_eq:∀(l:List Int) (b:Bool) (us ps:List Int),credL l b (partsN 6 us) (partsN 6 ps)=((credS l b us ps).1,partsN 6 (credS l b us ps).2.1,partsN 6 (credS l b us ps).2.2)
 | [],b,us,ps=>rfl
 | c::r,b,us,ps=>by
   unfold credL credS
   by_cases h:c=58∧b=false
   ·rw [if_pos h,if_pos h];exact cred_eq r true us ps
   ·rw [if_neg h,if_neg h]
    cases b with
    | true =>
      have:=cred_eq r true us (ps++[c])
      rw [parts_snoc] at this
      simpa [addC] using this
    | false =>
      have:=cred_eq r false (us++[c]) ps
      rw [parts_snoc] at this
      simpa [addC] using this
theorem part64:partN 6 64=[37,52,48]:=by decide +kernel
theorem cred_at (l:List Int) (b:Bool) (us ps:List Int):credL ([37,52,48]++l) b (partsN 6 us) (partsN 6 ps)=credL l b (partsN 6 (addC b us ps 64).1) (partsN 6 (addC b us ps 64).2):=by
 have h1:partN 6 37=[37]:=by decide +kernel
 have h2:partN 6 52=[52]:=by decide +kernel
 have h3:partN 6 48=[48]:=by decide +kernel
 cases b<;>simp [credL,addC,parts_snoc,part64,h1,h2,h3]
theorem cred_sim (x:RdP) (m:MaR) (h:Sim x m 9):Sim (behP (credP x,9,1,0)) (behM (credM m,9,false,0)) 9:=by
 simp only [Sim,show¬(9:Nat)≤8 by decide,if_false,if_true] at h ⊢
 obtain ⟨rfl,hp⟩:=h
 have key:credL (if x.m.seen=true then [37,52,48]++x.m.buf else x.m.buf) x.m.colon (partsN 6 x.us) (partsN 6 x.ps)=((credS x.m.buf x.m.colon (credB x).1 (credB x).2).1,partsN 6 (credS x.m.buf x.m.colon (credB x).1 (credB x).2).2.1,partsN 6 (credS x.m.buf x.m.colon (credB x).1 (credB x).2).2.2):=by
  unfold credB
  cases x.m.seen with
  | true=>simp only [if_true];rw [cred_at,cred_eq]
  | false=>simp only [Bool.false_eq_true,if_false];rw [cred_eq]
 refine ⟨?_,hp⟩
 simp only [behM,behP,credM,credP,RdP.on,Bool.false_eq_true,if_false,key]
theorem portN_pos:∀(l:List Int) (a b:Int),a=min b 65536→(∀c∈l,48≤c)→l.foldl (fun n c=>min (n * 10+c-48) 65536) a=min (l.foldl (fun n c=>min (10 * n+c-48) 1048576) b) 65536
 | [],a,b,h,_=>h
 | c::r,a,b,h,hl=>by
   have hc:=hl c (by simp)
   exact portN_pos r _ _ (show min (a * 10+c-48) 65536=min (min (10 * b+c-48) 1048576) 65536 by omega) (fun d hd=>hl d (List.mem_cons_of_mem _ hd))
theorem portN_eq {l:List Int} (hl:∀c∈l,48≤c):portNumP l=min (portN l) 65536:=portN_pos l 0 0 (by omega) hl
theorem fresh_spM {m:MaR} {l:List UInt8} (h:m.u={ urlM with sch:=l }):m.u.port=-1∧m.u.usr=[]∧m.u.pas=[]∧m.u.txt=[]∧m.u.frg=[]∧m.u.qry=[]:=by rw [h];exact ⟨rfl,rfl,rfl,rfl,rfl,rfl⟩
theorem sim_low {x:RdP} {m:MaR} {s:Nat} (hs:s≤8) (h:Sim x m s):x.m=m∧x.us=[]∧x.ps=[]∧Fresh m∧(s≠1→m.buf=[]):=by
 unfold Sim at h;rwa [if_pos hs] at h
theorem sim_lo {x:RdP} {m:MaR} {s:Nat} (hs:s≤8) (h1:x.m=m) (h2:x.us=[]) (h3:x.ps=[]) (h4:Fresh m) (h5:s≠1→m.buf=[]):Sim x m s:=by
 unfold Sim;rw [if_pos hs];exact ⟨h1,h2,h3,h4,h5⟩
theorem leave_sim (x:RdP) (c:Int) (m:MaR) (h:x.m=m) (hb:m.buf=[]) (hc:c=-1∨c=63∨c=35) :
 Alike (leaveP x c) (if c=63 then (askM m,15,false,0) else if c=35 then (markM m,16,false,0) else (m,17,false,0)):=by
 subst h
 unfold leaveP
 rcases hc with rfl | rfl | rfl
 ·exact ⟨rfl,fun _=>⟨rfl,by simp [Sim,behP,behM,RdP.on]⟩⟩
 ·exact ⟨rfl,fun _=>⟨rfl,by simp [Sim,behP,behM,RdP.on,askM]⟩⟩
 ·refine ⟨rfl,fun _=>⟨rfl,?_⟩⟩
  simp [Sim,behP,behM,RdP.on,markM,hb,partsN]
theorem no_err {n:Nat} {p:Prop} (h:n+1=0):p:=absurd h (Nat.succ_ne_zero n)
theorem sim_begin (x:RdP) (m:MaR) (c:Int) (h:Sim x m 0):Alike (beginP x c) (frontR m 0 c):=by
 obtain ⟨rfl,h2,h3,h4,h5⟩:=sim_low (by decide) h
 unfold beginP frontR
 rw [if_pos rfl]
 split
 ·exact ⟨rfl,fun _=>⟨rfl,sim_lo (by show 1≤8;decide) rfl h2 h3 h4 (fun h=>absurd rfl h)⟩⟩
 ·exact ⟨rfl,fun _=>⟨rfl,sim_lo (by show 2≤8;decide) rfl h2 h3 h4 (fun _=>h5 (by decide))⟩⟩
theorem sim_behind (x:RdP) (h2:x.us=[]) (h3:x.ps=[]) (h4:Fresh x.m) (h5:x.m.buf=[]):Alike (behindP x) (colonR x.m):=by
 obtain ⟨l,hl⟩:=h4
 unfold behindP colonR
 split
 ·exact ⟨rfl,fun h=>no_err h⟩
 split
 ·exact ⟨rfl,fun _=>⟨rfl,sim_lo (by show 3≤8;decide) rfl h2 h3 ⟨l,hl⟩ (fun _=>h5)⟩⟩
 split
 ·exact ⟨rfl,fun _=>⟨rfl,sim_lo (by show 7≤8;decide) rfl h2 h3 ⟨l,hl⟩ (fun _=>h5)⟩⟩
 split
 ·exact ⟨rfl,fun _=>⟨rfl,sim_lo (by show 4≤8;decide) rfl h2 h3 ⟨l,hl⟩ (fun _=>h5)⟩⟩
 ·refine ⟨rfl,fun _=>⟨rfl,?_⟩⟩
  simp [Sim,behP,behM,RdP.on,darkU,h5,partsN,hl,urlM,url0]
theorem sim_scheme (x:RdP) (m:MaR) (c:Int) (h:Sim x m 1):Alike (schemeP x c) (schemeR m c):=by
 obtain ⟨rfl,h2,h3,⟨l,hl⟩,h5⟩:=sim_low (by decide) h
 unfold schemeP schemeR
 split
 ·exact ⟨rfl,fun _=>⟨rfl,sim_lo (by show 1≤8;decide) rfl h2 h3 ⟨l,hl⟩ (fun h=>absurd rfl h)⟩⟩
 by_cases h58:c=58
 ·rw [if_pos h58,if_neg (fun h=>h h58)]
  refine sim_behind (x.on schemeM) h2 h3 ⟨textL x.m.buf,?_⟩ rfl
  show ({ x.m.u with sch:=textL x.m.buf }:UrlN)=_
  rw [hl]
 ·rw [if_neg h58,if_pos h58]
  exact ⟨rfl,fun _=>⟨rfl,sim_lo (by show 2≤8;decide) rfl h2 h3 ⟨l,hl⟩ (fun _=>rfl)⟩⟩
theorem sim_noScheme (x:RdP) (m:MaR) (c:Int) (h:Sim x m 2):Alike (noSchemeP x c) (noSchemeR m c):=by
 obtain ⟨rfl,h2,h3,h4,h5⟩:=sim_low (by decide) h
 unfold noSchemeP noSchemeR
 split
 ·exact ⟨rfl,fun h=>no_err h⟩
 rename_i hn
 by_cases hd:x.m.base.dark=true
 ·have hc:c=35:=by
   simp only [Bool.or_eq_true,Bool.and_eq_true,Bool.not_eq_true',bne_iff_ne,hd,true_and,not_or,Decidable.not_not] at hn
   exact hn.2
  subst hc
  rw [if_pos hd,if_pos hd]
  exact leave_sim (x.on (fun m=>{ m with u:=m.base })) 35 { x.m with u:=x.m.base } rfl (h5 (by decide)) (Or.inr (Or.inr rfl))
 ·rw [if_neg hd,if_neg hd]
  exact ⟨rfl,fun _=>⟨rfl,sim_lo (by show 5≤8;decide) rfl h2 h3 h4 (fun _=>h5 (by decide))⟩⟩
theorem sim_slashOr (x:RdP) (m:MaR) (c:Int) (h:Sim x m 3):Alike (slashOrP x c) (slashesR m 3 c):=by
 obtain ⟨rfl,h2,h3,h4,h5⟩:=sim_low (by decide) h
 unfold slashOrP slashesR
 split
 ·exact ⟨rfl,fun _=>⟨rfl,sim_lo (by show 8≤8;decide) rfl h2 h3 h4 (fun _=>h5 (by decide))⟩⟩
 ·exact ⟨rfl,fun _=>⟨rfl,sim_lo (by show 5≤8;decide) rfl h2 h3 h4 (fun _=>h5 (by decide))⟩⟩
theorem sim_slashes (x:RdP) (m:MaR) (c:Int) (h:Sim x m 7):Alike (slashesP x c) (slashesR m 7 c):=by
 obtain ⟨rfl,h2,h3,h4,h5⟩:=sim_low (by decide) h
 unfold slashesP slashesR
 split
 ·exact ⟨rfl,fun _=>⟨rfl,sim_lo (by show 8≤8;decide) rfl h2 h3 h4 (fun _=>h5 (by decide))⟩⟩
 ·exact ⟨rfl,fun _=>⟨rfl,sim_lo (by show 8≤8;decide) rfl h2 h3 h4 (fun _=>h5 (by decide))⟩⟩
theorem sim_auth {x:RdP} {m:MaR} (h1:x.m=m) (h2:x.us=[]) (h3:x.ps=[]) (h4:Fresh m):Sim x m 9:=by
 obtain ⟨l,hl⟩:=h4
 subst h1
 obtain ⟨e1,e2,e3,-⟩:=fresh_spM hl
 simp only [Sim,show¬(9:Nat)≤8 by decide,if_false,if_true]
 refine ⟨?_,e1⟩
 rw [h2,h3]
 obtain ⟨⟨inp,p,⟨⟩⟩,us,ps⟩:=x
 simp only [partsN,List.flatMap_nil] at *
 simp [e2,e3]
theorem sim_path {x:RdP} {m:MaR} (h1:x.m=m):Sim x m 13:=by simp [Sim,h1]
theorem sim_slash (x:RdP) (m:MaR) (c:Int) (h:Sim x m 4):Alike (slashP x c) (if c=47 then (m,9,false,0) else (m,13,true,0)):=by
 obtain ⟨rfl,h2,h3,h4,h5⟩:=sim_low (by decide) h
 unfold slashP
 split
 ·exact ⟨rfl,fun _=>⟨rfl,sim_auth rfl h2 h3 h4⟩⟩
 ·exact ⟨rfl,fun _=>⟨rfl,sim_path rfl⟩⟩
theorem sim_skip (x:RdP) (m:MaR) (c:Int) (h:Sim x m 8):Alike (skipP x c) (if c=47∨c=92 then (m,8,false,0) else (m,9,true,0)):=by
 obtain ⟨rfl,h2,h3,h4,h5⟩:=sim_low (by decide) h
 unfold skipP
 split
 ·exact ⟨rfl,fun _=>⟨rfl,sim_lo (by show 8≤8;decide) rfl h2 h3 h4 (fun _=>h5 (by decide))⟩⟩
 ·exact ⟨rfl,fun _=>⟨rfl,sim_auth rfl h2 h3 h4⟩⟩
theorem endsB_iff {c:Int}:endsB c=true↔c=-1∨c=63∨c=35:=by
 simp only [endsB,Bool.or_eq_true,beq_iff_eq,or_assoc]
theorem endsB_no {c:Int}:endsB c=false↔c≠-1∧c≠63∧c≠35:=by
 simp only [endsB,Bool.or_eq_false_iff,beq_eq_false_iff_ne,and_assoc]
theorem sim_relative (x:RdP) (m:MaR) (c:Int) (h:Sim x m 5) (hc:-1≤c):Alike (relativeP x c) (relativeR m c):=by
 obtain ⟨rfl,h2,h3,⟨l,hl⟩,h5⟩:=sim_low (by decide) h
 unfold relativeP relativeR
 show Alike _ (if slashM (relSchM x.m) c=true then _ else _)
 split
 ·refine ⟨rfl,fun _=>⟨rfl,sim_lo (by show 6≤8;decide) rfl h2 h3 ⟨x.m.base.sch,?_⟩ (fun _=>h5 (by decide))⟩⟩
  show ({ x.m.u with sch:=x.m.base.sch }:UrlN)=_
  rw [hl]
 split
 ·rename_i he
  have he:=endsB_iff.1 he
  have:=leave_sim (x.on (fun m=>baseM (relSchM m))) c (baseM (relSchM x.m)) rfl (h5 (by decide)) he
  rcases he with rfl | rfl | rfl<;>exact this
 ·rename_i he
  have he:=endsB_no.1 (by simpa using he)
  rw [if_neg he.2.1,if_neg he.2.2,if_neg (by omega)]
  exact ⟨rfl,fun _=>⟨rfl,sim_path rfl⟩⟩
theorem sim_relSlash (x:RdP) (m:MaR) (c:Int) (h:Sim x m 6):Alike (relSlashP x c) (middleR m 6 c):=by
 obtain ⟨rfl,h2,h3,h4,h5⟩:=sim_low (by decide) h
 unfold relSlashP middleR
 rw [if_pos rfl]
 split
 ·exact ⟨rfl,fun _=>⟨rfl,sim_lo (by show 8≤8;decide) rfl h2 h3 h4 (fun _=>h5 (by decide))⟩⟩
 split
 ·exact ⟨rfl,fun _=>⟨rfl,sim_auth rfl h2 h3 h4⟩⟩
 ·exact ⟨rfl,fun _=>⟨rfl,sim_path rfl⟩⟩
theorem ends_sp (m:MaR) (u:UrlN) (h:u.sch=m.u.sch) (c:Int):endsA { m with u:=u } c=endsA m c:=by
 simp only [endsA,slashM,spM,h]
theorem sim_who (x:RdP) (m:MaR) (c:Int) (h:Sim x m 9) (hc:-1≤c):Alike (authP x c) (whoAuthR m c):=by
 unfold authP whoAuthR
 split
 ·exact ⟨rfl,fun _=>⟨rfl,cred_sim x m h⟩⟩
 simp only [Sim,show¬(9:Nat)≤8 by decide,if_false,if_true] at h
 obtain ⟨rfl,hp⟩:=h
 rw [ends_eq hc]
 have e:endsA { x.m with u:={ x.m.u with usr:=partsN 6 x.us,pas:=partsN 6 x.ps } } c=endsA x.m c:=ends_sp x.m { x.m.u with usr:=partsN 6 x.us,pas:=partsN 6 x.ps } rfl c
 rw [e]
 cases endsA x.m c with
 | false =>
   rw [if_pos rfl,if_neg (by decide)]
   refine ⟨rfl,fun _=>⟨rfl,?_⟩⟩
   simp only [Sim,show¬(9:Nat)≤8 by decide,if_false,if_true]
   exact ⟨rfl,hp⟩
 | true =>
   rw [if_neg (by decide),if_pos rfl]
   split
   ·exact ⟨rfl,fun h=>no_err h⟩
   ·refine ⟨rfl,fun _=>⟨rfl,?_⟩⟩
    simp only [Sim,show¬(10:Nat)≤8 by decide,if_false,if_true,show¬(10:Nat)=9 by decide,true_or]
    refine ⟨?_,hp⟩
    simp only [behP,behM,RdP.on,authM,enc_parts,if_true,Nat.add_zero]
theorem sim_mid {x:RdP} {m:MaR} {s:Nat} (h:Sim x m s) (hs:s=10∨s=11):x.m=m∧m.u.port=-1:=by
 rcases hs with rfl | rfl<;>simpa [Sim] using h
theorem sim_host (x:RdP) (m:MaR) (c:Int) (h:Sim x m 10) (hc:-1≤c):Alike (hostP x c) (whoHostR m c):=by
 obtain ⟨rfl,hp⟩:=sim_mid h (Or.inl rfl)
 unfold hostP whoHostR
 split
 ·unfold leaveHostP
  by_cases hb:x.m.buf=[]
  ·rw [if_pos ⟨hb,rfl⟩,if_pos hb];exact ⟨rfl,fun h=>no_err h⟩
  ·rw [if_neg (fun h=>hb h.1),if_neg hb]
   split
   ·rename_i he;exact ⟨rfl,fun h=>absurd h he⟩
   ·rename_i he
    rw [Decidable.not_not] at he
    exact ⟨he.symm,fun _=>⟨rfl,by simpa [Sim,behP,behM,RdP.on,hostM] using hp⟩⟩
 rw [ends_eq hc]
 split
 ·unfold leaveHostP
  by_cases hb:spM x.m=true∧x.m.buf=[]
  ·rw [if_pos ⟨hb.2,by rw [hb.1];rfl⟩,if_pos hb];exact ⟨rfl,fun h=>no_err h⟩
  ·rw [if_neg (fun h=>hb ⟨by simpa using h.2,h.1⟩),if_neg hb]
   split
   ·rename_i he;exact ⟨rfl,fun h=>absurd h he⟩
   ·rename_i he
    rw [Decidable.not_not] at he
    exact ⟨he.symm,fun _=>⟨rfl,by simp [Sim,behP,behM,RdP.on,hostM]⟩⟩
 ·exact ⟨rfl,fun _=>⟨rfl,by simpa [Sim,behP,behM,RdP.on,gatherM] using hp⟩⟩
theorem sim_port (x:RdP) (m:MaR) (c:Int) (h:Sim x m 11) (hc:-1≤c) (hd:∀d∈m.buf,48≤d):Alike (portP x c) (whoPortR m c):=by
 obtain ⟨rfl,hp⟩:=sim_mid h (Or.inr rfl)
 unfold portP whoPortR
 split
 ·exact ⟨rfl,fun _=>⟨rfl,by simpa [Sim,behP,behM,RdP.on,gatherM] using hp⟩⟩
 rw [ends_eq hc]
 split
 ·exact ⟨rfl,fun h=>no_err h⟩
 split
 ·rename_i hb;exact ⟨rfl,fun _=>⟨rfl,by simpa [Sim,behP,behM,RdP.on] using hb⟩⟩
 have e:=portN_eq hd
 by_cases hn:65535 < portN x.m.buf
 ·rw [if_pos (by omega),if_pos hn];exact ⟨rfl,fun h=>no_err h⟩
 ·rw [if_neg (by omega),if_neg hn]
  have e:portNumP x.m.buf=portN x.m.buf:=by omega
  refine ⟨rfl,fun _=>⟨rfl,?_⟩⟩
  have key:(if spM x.m=false∨portNumP x.m.buf≠(specialN x.m.u.sch:Int) then portNumP x.m.buf else x.m.u.port)=(if portN x.m.buf=(specialN x.m.u.sch:Int)∧spM x.m=true then -1 else portN x.m.buf):=by
   rw [e,hp]
   by_cases h1:portN x.m.buf=(specialN x.m.u.sch:Int)<;>cases spM x.m<;>simp [h1]
  simp [Sim,behP,behM,RdP.on,portM,key]
theorem sim_start (x:RdP) (m:MaR) (c:Int) (h:Sim x m 12) (hc:-1≤c):Alike (startP x c) (startR m c):=by
 have h:x.m=m∧m.buf=[]:=by simpa [Sim] using h
 obtain ⟨rfl,hb⟩:=h
 unfold startP startR
 have hs:slashM x.m c=(c==47||(spM x.m&&c==92)):=rfl
 cases hsp:spM x.m with
 | true =>
   cases hsl:slashM x.m c with
   | true=>simp only [if_true];exact ⟨rfl,fun _=>⟨rfl,sim_path rfl⟩⟩
   | false =>
     simp only [Bool.not_true,Bool.false_and,Bool.false_eq_true,if_false,if_true,Bool.not_false]
     exact ⟨rfl,fun _=>⟨rfl,sim_path rfl⟩⟩
 | false =>
   rw [hsp,Bool.false_and,Bool.or_false] at hs
   rw [hs]
   simp only [Bool.not_false,Bool.true_and,Bool.false_eq_true,if_false]
   by_cases h47:c=47
   ·subst h47
    exact ⟨rfl,fun _=>⟨rfl,sim_path rfl⟩⟩
   ·rw [if_neg (by simpa using h47)]
    by_cases he:endsB c=true
    ·rw [if_pos he]
     have he:=endsB_iff.1 he
     have:=leave_sim x c x.m rfl hb he
     rcases he with rfl | rfl | rfl<;>exact this
    ·rw [if_neg he]
     have he:=endsB_no.1 (by simpa using he)
     rw [if_neg he.2.1,if_neg he.2.2,if_neg (by omega)]
     refine ⟨rfl,fun _=>⟨rfl,?_⟩⟩
     have:(c != 47)=true:=by simpa using h47
     simp only [behM,this,if_true]
     exact sim_path rfl
theorem sim_pathS (x:RdP) (m:MaR) (c:Int) (h:Sim x m 13) (hc:-1≤c):Alike (pathP x c) (pathR m c):=by
 have h:x.m=m:=by simpa [Sim] using h
 subst h
 unfold pathP pathR
 have e:(decide (0≤c)&&c != 63&&c != 35&&!slashM x.m c)=(!slashM x.m c&&!endsB c):=by
  unfold endsB
  cases slashM x.m c with
  | true=>simp
  | false =>
    by_cases h1:c=-1
    ·subst h1;rfl
    ·rw [decide_eq_true (show 0≤c by omega),beq_eq_false_iff_ne.2 h1];simp [bne]
 rw [e]
 split
 ·exact ⟨rfl,fun _=>⟨rfl,sim_path rfl⟩⟩
 by_cases he:endsB c=true
 ·rw [if_pos he]
  have he:=endsB_iff.1 he
  have:=leave_sim (x.on (pieceM · c)) c (pieceM x.m c) rfl (piece_buf _ _) he
  rcases he with rfl | rfl | rfl<;>exact this
 ·rw [if_neg he]
  have he:=endsB_no.1 (by simpa using he)
  rw [if_neg he.2.1,if_neg he.2.2,if_neg he.1]
  exact ⟨rfl,fun _=>⟨rfl,sim_path rfl⟩⟩
theorem sim_dark (x:RdP) (m:MaR) (c:Int) (h:Sim x m 14) (hc:-1≤c):Alike (darkP x c) (darkM m c):=by
 have h:m={ x.m with buf:=[],u:={ x.m.u with txt:=partsN 1 x.m.buf } }:=by simpa [Sim] using h
 unfold darkP darkM
 by_cases he:endsB c=true
 ·rw [if_neg (by rw [he];decide)]
  have he:=endsB_iff.1 he
  have:=leave_sim (x.on (fun m=>{ m with buf:=[],u:={ m.u with txt:=encU 1 m.buf } })) c m (by rw [h,← enc_parts];rfl) (by rw [h]) he
  rcases he with rfl | rfl | rfl<;>exact this
 ·rw [if_pos (by simpa using he)]
  have he:=endsB_no.1 (by simpa using he)
  rw [if_neg he.2.1,if_neg he.2.2,if_neg (by omega)]
  refine ⟨rfl,fun _=>⟨rfl,?_⟩⟩
  subst h
  simp [Sim,behP,behM,RdP.on,gatherM,parts_snoc]
theorem sim_query (x:RdP) (m:MaR) (c:Int) (h:Sim x m 15) (hc:-1≤c):Alike (queryP x c) (queryR m c):=by
 have h:x.m=m∧m.u.qry=[]:=by simpa [Sim] using h
 obtain ⟨rfl,hq⟩:=h
 unfold queryP queryR
 by_cases h1:c=-1
 ·subst h1
  rw [if_neg (by decide),if_neg (by decide),if_neg (by decide)]
  have:=leave_sim (x.on queryU) (-1) (queryM x.m) (by simp [RdP.on,queryU,queryM,encU,hq]) rfl (Or.inl rfl)
  exact this
 by_cases h2:c=35
 ·subst h2
  rw [if_neg (by decide),if_neg (by decide),if_pos rfl]
  have:=leave_sim (x.on queryU) 35 (queryM x.m) (by simp [RdP.on,queryU,queryM,encU,hq]) rfl (Or.inr (Or.inr rfl))
  exact this
 ·rw [if_pos ⟨h2,h1⟩,if_pos ⟨by omega,h2⟩]
  exact ⟨rfl,fun _=>⟨rfl,by simpa [Sim,behP,behM,RdP.on,gatherM] using hq⟩⟩
theorem sim_frag (x:RdP) (m:MaR) (c:Int) (h:Sim x m 16) (hc:-1≤c):Alike (fragP x c) (fragR m c):=by
 have h:m={ x.m with buf:=[],u:={ x.m.u with frg:=partsN 2 x.m.buf } }:=by simpa [Sim] using h
 unfold fragP fragR
 by_cases h1:c=-1
 ·subst h1
  rw [if_neg (by decide),if_pos (by decide)]
  refine ⟨rfl,fun _=>⟨rfl,?_⟩⟩
  subst h
  simp [Sim,behP,behM,RdP.on,fragU,enc_parts]
 ·rw [if_pos h1,if_neg (by omega)]
  refine ⟨rfl,fun _=>⟨rfl,?_⟩⟩
  subst h
  simp [Sim,behP,behM,RdP.on,gatherM,parts_snoc]
theorem sim_step (x:RdP) (m:MaR) (s:Nat) (c:Int) (hs:s < 17) (h:Sim x m s) (hc:-1≤c) (hd:s=11→∀d∈m.buf,48≤d):Alike (stepP x s c) (stepR m s c):=by
 match s,hs,h,hd with
 | 0,_,h,_=>exact sim_begin x m c h
 | 1,_,h,_=>exact sim_scheme x m c h
 | 2,_,h,_=>exact sim_noScheme x m c h
 | 3,_,h,_=>exact sim_slashOr x m c h
 | 4,_,h,_=>exact sim_slash x m c h
 | 5,_,h,_=>exact sim_relative x m c h hc
 | 6,_,h,_=>exact sim_relSlash x m c h
 | 7,_,h,_=>exact sim_slashes x m c h
 | 8,_,h,_=>exact sim_skip x m c h
 | 9,_,h,_=>exact sim_who x m c h hc
 | 10,_,h,_=>exact sim_host x m c h hc
 | 11,_,h,hd=>exact sim_port x m c h hc (hd rfl)
 | 12,_,h,_=>exact sim_start x m c h hc
 | 13,_,h,_=>exact sim_pathS x m c h hc
 | 14,_,h,_=>exact sim_dark x m c h hc
 | 15,_,h,_=>exact sim_query x m c h hc
 | 16,_,h,_=>exact sim_frag x m c h hc
 | n+17,hs,_,_=>exact absurd hs (by omega)
def Lens (x:RdP) (s:Nat):Prop:=x.m.buf.length≤x.m.p∧(s≤9→x.us.length+x.ps.length+x.m.buf.length≤x.m.p)∧(s=11→∀d∈x.m.buf,48≤d∧d≤57)
theorem add_len (b:Bool) (us ps:List Int) (c:Int):(addC b us ps c).1.length+(addC b us ps c).2.length=us.length+ps.length+1:=by
 unfold addC;split<;>simp<;>omega
theorem credS_len:∀(l:List Int) (b:Bool) (us ps:List Int),(credS l b us ps).2.1.length+(credS l b us ps).2.2.length≤us.length+ps.length+l.length
 | [],b,us,ps=>by simp [credS]
 | c::r,b,us,ps=>by
   unfold credS
   split
   ·have:=credS_len r true us ps;simp only [List.length_cons];omega
   ·have h:=add_len b us ps c
    have:=credS_len r b (addC b us ps c).1 (addC b us ps c).2;simp only [List.length_cons];omega
theorem lens_nil {x:RdP} {s:Nat} (hb:x.m.buf=[]) (hs:s≤9→x.us.length+x.ps.length≤x.m.p):Lens x s :=
 ⟨by simp [hb],fun h=>by have:=hs h;simp [hb];exact this,fun _ d hd=>by simp [hb] at hd⟩
theorem lens_gather {x:RdP} {s t:Nat} {c:Int} {f:MaR→MaR} (h:Lens x s) (hb:(f x.m).buf=x.m.buf++[c]) (hp:(f x.m).p=x.m.p) (h9:t≤9→s≤9) (h11:t=11→s=11∧48≤c∧c≤57):Lens (behP (x.on f,t,1,0)) t:=by
 refine ⟨?_,fun ht=>?_,fun ht d hd=>?_⟩
 ·have:=h.1;simp only [behP,RdP.on,hb,hp,List.length_append,List.length_cons,List.length_nil];omega
 ·have:=h.2.1 (h9 ht);simp only [behP,RdP.on,hb,hp,List.length_append,List.length_cons,List.length_nil];omega
 ·simp only [behP,RdP.on,hb,List.mem_append,List.mem_singleton] at hd
  rcases hd with hd | rfl
  ·exact h.2.2 (h11 ht).1 d hd
  ·exact (h11 ht).2
theorem lens_leave (x:RdP) (c:Int) (h:x.m.buf.length≤x.m.p):Lens (behP (leaveP x c)) (leaveP x c).2.1:=by
 unfold leaveP
 repeat' split
 all_goals refine ⟨by simp only [behP,RdP.on,askM,markM];omega,fun h=>?_,fun h=>?_⟩
 all_goals simp at h
theorem lens_same {x:RdP} {s t b e:Nat} (h:Lens x s) (h9:t≤9→s≤9) (h11:t≠11):Lens (behP (x,t,b,e)) t :=
 ⟨by have:=h.1;simp only [behP,RdP.on];omega,fun ht=>by have:=h.2.1 (h9 ht);simp only [behP,RdP.on];omega,fun ht=>absurd ht h11⟩
theorem lens_on {x:RdP} {s t b e:Nat} {f:MaR→MaR} (h:Lens x s) (hb:(f x.m).buf=x.m.buf) (hp:(f x.m).p=x.m.p) (h9:t≤9→s≤9) (h11:t≠11):Lens (behP (x.on f,t,b,e)) t :=
 ⟨by have:=h.1;simp only [behP,RdP.on,hb,hp];omega,fun ht=>by have:=h.2.1 (h9 ht);simp only [behP,RdP.on,hb,hp];omega,fun ht=>absurd ht h11⟩
theorem dig_48 {c:Int} (h:digC c=true):48≤c∧c≤57:=by simp only [digC,Bool.and_eq_true,decide_eq_true_eq] at h;omega
theorem lens_step (x:RdP) (s:Nat) (c:Int) (hs:s < 17) (h:Lens x s) (he:(stepP x s c).2.2.2=0) (hz:s≤8→x.us=[]∧x.ps=[]):Lens (behP (stepP x s c)) (stepP x s c).2.1:=by
 have h1:=h.1
 match s,hs,h,he,hz with
 | 0,_,h,_,_ =>
   show Lens (behP (beginP x c)) (beginP x c).2.1
   unfold beginP;split
   ·exact lens_gather (c:=lowC c) h rfl rfl (fun _=>by decide) (fun h=>absurd h (by decide))
   ·exact lens_same h (fun _=>by decide) (by decide)
 | 1,_,h,he,hz =>
   obtain ⟨z1,z2⟩:=hz (by decide)
   show Lens (behP (schemeP x c)) (schemeP x c).2.1
   have he:(schemeP x c).2.2.2=0:=he
   unfold schemeP at he ⊢
   split
   ·exact lens_gather (c:=lowC c) h rfl rfl (fun _=>by decide) (fun h=>absurd h (by decide))
   ·rename_i hn;rw [if_neg hn] at he
    split
    ·rename_i hn;rw [if_pos hn] at he
     have hx:∀(y:RdP) (t:Nat),y.m.buf=[]→y.us=[]→y.ps=[]→Lens y t:=fun y t e1 e2 e3=>lens_nil e1 (fun _=>by rw [e2,e3];simp)
     unfold behindP
     repeat' split
     all_goals exact hx _ _ rfl z1 z2
    ·exact lens_nil rfl (fun _=>by simp [behP,RdP.on,z1,z2])
 | 2,_,h,he,hz =>
   show Lens (behP (noSchemeP x c)) (noSchemeP x c).2.1
   unfold noSchemeP
   split
   ·exact lens_same h (fun _=>by decide) (by show (0:Nat)≠11;decide)
   split
   ·exact lens_leave _ c h1
   ·exact lens_same h (fun _=>by decide) (by decide)
 | 3,_,h,_,_ =>
   show Lens (behP (slashOrP x c)) (slashOrP x c).2.1
   unfold slashOrP;split<;>exact lens_same h (fun _=>by decide) (by decide)
 | 4,_,h,_,_ =>
   show Lens (behP (slashP x c)) (slashP x c).2.1
   unfold slashP;split<;>exact lens_same h (fun _=>by decide) (by decide)
 | 5,_,h,_,_ =>
   show Lens (behP (relativeP x c)) (relativeP x c).2.1
   unfold relativeP
   split
   ·exact lens_on (f:=relSchM) h rfl rfl (fun _=>by decide) (by decide)
   split
   ·exact lens_leave _ c h1
   ·exact lens_on (f:=fun m=>shortM (noQueryM (baseM (relSchM m)))) h rfl rfl (fun _=>by decide) (by decide)
 | 6,_,h,_,_ =>
   show Lens (behP (relSlashP x c)) (relSlashP x c).2.1
   unfold relSlashP
   split
   ·exact lens_same h (fun _=>by decide) (by decide)
   split
   ·exact lens_same h (fun _=>by decide) (by decide)
   ·exact lens_on (f:=ownM) h rfl rfl (fun _=>by decide) (by decide)
 | 7,_,h,_,_ =>
   show Lens (behP (slashesP x c)) (slashesP x c).2.1
   unfold slashesP;split<;>exact lens_same h (fun _=>by decide) (by decide)
 | 8,_,h,_,_ =>
   show Lens (behP (skipP x c)) (skipP x c).2.1
   unfold skipP;split<;>exact lens_same h (fun _=>by decide) (by decide)
 | 9,_,h,_,_ =>
   show Lens (behP (authP x c)) (authP x c).2.1
   have h9:=h.2.1 (by decide)
   unfold authP
   split
   ·refine lens_nil rfl (fun _=>?_)
    have k1:=credS_len x.m.buf x.m.colon (credB x).1 (credB x).2
    have k2:(credB x).1.length+(credB x).2.length≤x.us.length+x.ps.length+1:=by
     unfold credB;split
     ·rw [add_len];omega
     ·simp
    simp only [behP,RdP.on,credP];omega
   split
   ·exact lens_gather (c:=c) h rfl rfl (fun _=>by decide) (fun h=>absurd h (by decide))
   split
   ·exact lens_same h (fun _=>by decide) (by show (0:Nat)≠11;decide)
   ·exact lens_nil rfl (fun h=>absurd h (by show¬(10≤9);decide))
 | 10,_,h,he,_ =>
   show Lens (behP (hostP x c)) (hostP x c).2.1
   have hl:∀to b m,to > 9→(leaveHostP x to b m).2.2.2=0→Lens (behP (leaveHostP x to b m)) (leaveHostP x to b m).2.1:=by
    intro to b m ht hz
    unfold leaveHostP at hz ⊢
    split
    ·rename_i hc;rw [if_pos hc] at hz;exact absurd hz (by show¬(6:Nat)=0;decide)
    ·rename_i hc;rw [if_neg hc] at hz
     split
     ·rename_i hc;rw [if_pos hc] at hz;exact absurd hz hc
     ·exact lens_nil rfl (fun h=>by have h:to≤9:=h;omega)
   have he:(hostP x c).2.2.2=0:=he
   unfold hostP at he ⊢
   split
   ·rename_i hc;rw [if_pos hc] at he;exact hl _ _ _ (by decide) he
   rename_i hc;rw [if_neg hc] at he
   split
   ·rename_i hc;rw [if_pos hc] at he;exact hl _ _ _ (by decide) he
   ·exact lens_gather (c:=c) (f:=fun m=>gatherM { m with brack:=if c=91 then true else if c=93 then false else m.brack } c) h rfl rfl (fun h=>absurd h (by decide)) (fun h=>absurd h (by decide))
 | 11,_,h,he,_ =>
   show Lens (behP (portP x c)) (portP x c).2.1
   have he:(portP x c).2.2.2=0:=he
   unfold portP at he ⊢
   split
   ·rename_i hd;exact lens_gather (c:=c) h rfl rfl (fun h=>absurd h (by decide)) (fun _=>⟨rfl,dig_48 hd⟩)
   rename_i hc;rw [if_neg hc] at he
   split
   ·rename_i hc;rw [if_pos hc] at he;exact absurd he (by show¬(4:Nat)=0;decide)
   rename_i hc;rw [if_neg hc] at he
   split
   ·exact lens_same h (fun h=>absurd h (by decide)) (by decide)
   rename_i hc;rw [if_neg hc] at he
   split
   ·rename_i hc;rw [if_pos hc] at he;exact absurd he (by show¬(1:Nat)=0;decide)
   ·exact lens_nil rfl (fun h=>absurd h (by show¬(12≤9);decide))
 | 12,_,h,_,_ =>
   show Lens (behP (startP x c)) (startP x c).2.1
   unfold startP
   split
   ·exact lens_same h (fun h=>absurd h (by decide)) (by decide)
   split
   ·exact lens_leave _ c h1
   ·exact lens_same h (fun h=>absurd h (by decide)) (by decide)
 | 13,_,h,_,_ =>
   show Lens (behP (pathP x c)) (pathP x c).2.1
   unfold pathP
   split
   ·exact lens_gather (c:=c) h rfl rfl (fun h=>absurd h (by decide)) (fun h=>absurd h (by decide))
   split
   ·exact lens_leave _ c (by show (pieceM x.m c).buf.length≤_;rw [piece_buf];simp)
   ·exact lens_nil (piece_buf _ _) (fun h=>absurd h (by show¬(13≤9);decide))
 | 14,_,h,_,_ =>
   show Lens (behP (darkP x c)) (darkP x c).2.1
   unfold darkP
   split
   ·exact lens_gather (c:=c) h rfl rfl (fun h=>absurd h (by decide)) (fun h=>absurd h (by decide))
   ·exact lens_leave _ c (by simp [RdP.on])
 | 15,_,h,_,_ =>
   show Lens (behP (queryP x c)) (queryP x c).2.1
   unfold queryP
   split
   ·exact lens_gather (c:=c) h rfl rfl (fun h=>absurd h (by decide)) (fun h=>absurd h (by decide))
   ·exact lens_leave _ c (by simp [RdP.on,queryU])
 | 16,_,h,_,_ =>
   show Lens (behP (fragP x c)) (fragP x c).2.1
   unfold fragP
   split
   ·exact lens_gather (c:=c) h rfl rfl (fun h=>absurd h (by decide)) (fun h=>absurd h (by decide))
   ·exact lens_nil rfl (fun h=>absurd h (by show¬(17≤9);decide))
 | n+17,hs,_,_,_=>exact absurd hs (by omega)
def ans (m:MaR) (s:Nat):UrlN×Nat:=runF (leftM m s+1) m s
theorem ans_end (m:MaR):ans m 17=if 256 < m.u.path.length then (url0,11) else (m.u,0):=by
 unfold ans;rw [runF_step,if_pos rfl]
theorem ans_look (m:MaR) (s:Nat) (hs:s < 17) (hp:m.p≤m.inp.length) :
 ans m s=if (stepR m s (signAt m.inp m.p)).2.2.2≠0 then (url0,(stepR m s (signAt m.inp m.p)).2.2.2) else ans (behM (stepR m s (signAt m.inp m.p))) (stepR m s (signAt m.inp m.p)).2.1:=by
 unfold ans
 rw [runF_step,if_neg (by omega)]
 have hpos:=left_pos m hs
 split
 ·rfl
 refine runF_eq _ _ _ _ (step_le m s hs hp) (fun h2=>?_) (fun h2=>?_) (fun h2=>?_) (by omega) (by omega)
 ·exact (left_down m s hs hp (by omega)).1
 ·exact (left_down m s hs hp (by omega)).2
 ·omega
def At (m:MaR) (r:List Int):Prop:=m.inp.drop m.p=r∧m.p≤m.inp.length
theorem At.none {m:MaR} (h:At m []):signAt m.inp m.p=-1:=by
 have h1:=h.1
 unfold signAt
 have:m.inp.length≤m.p:=List.drop_eq_nil_iff.1 h1
 rw [List.getElem?_eq_none this];rfl
theorem At.next {m:MaR} {c d:Int} {r:List Int} (h:At m (c::d::r)):signAt m.inp (m.p+1)=d:=by
 have h1:=h.1
 unfold signAt
 have:m.inp[m.p+1]? = some d:=by
  have:=congrArg (fun l=>l[1]?) h1
  simpa [List.getElem?_drop] using this
 rw [this];rfl
theorem sim_same {x:RdP} {m:MaR} {s:Nat} (h:Sim x m s):x.m.inp=m.inp∧x.m.p=m.p∧x.m.base=m.base∧x.m.has=m.has:=by
 unfold Sim at h
 split at h
 ·rw [h.1];exact ⟨rfl,rfl,rfl,rfl⟩
 split at h
 ·rw [h.1];exact ⟨rfl,rfl,rfl,rfl⟩
 split at h
 ·rw [h.1];exact ⟨rfl,rfl,rfl,rfl⟩
 split at h
 ·rw [h.1];exact ⟨rfl,rfl,rfl,rfl⟩
 split at h
 ·rw [h];exact ⟨rfl,rfl,rfl,rfl⟩
 split at h
 ·rw [h.1];exact ⟨rfl,rfl,rfl,rfl⟩
 split at h
 ·rw [h];exact ⟨rfl,rfl,rfl,rfl⟩
 ·rw [h];exact ⟨rfl,rfl,rfl,rfl⟩
def Pcs (x:RdP) (s:Nat):Prop:=x.m.u.path.length≤x.m.base.path.length+x.m.p∧(s≤12→x.m.u.path=[])
theorem pcs_leave (x:RdP) (c:Int) (h:x.m.u.path.length≤x.m.base.path.length+x.m.p):Pcs (behP (leaveP x c)) (leaveP x c).2.1:=by
 unfold leaveP
 repeat' split
 all_goals refine ⟨by simp only [behP,RdP.on,askM,markM];omega,fun h=>?_⟩
 all_goals simp at h
theorem pcs_nil {x:RdP} {s:Nat} (h:x.m.u.path=[]):Pcs x s:=⟨by rw [h];simp,fun _=>h⟩
theorem pcs_on {x:RdP} {t b e:Nat} {f:MaR→MaR} (h:x.m.u.path.length≤x.m.base.path.length+x.m.p) (hp:(f x.m).u.path=x.m.u.path) (hb:(f x.m).base=x.m.base) (hq:x.m.p≤(f x.m).p) (ht:12 < t):Pcs (behP (x.on f,t,b,e)) t :=
 ⟨by simp only [behP,RdP.on,hp,hb];omega,fun h=>by omega⟩
theorem short_len (m:MaR):(shortM m).u.path.length≤m.u.path.length:=by simp only [shortM,List.length_dropLast];omega
theorem piece_len (m:MaR) (c:Int):(pieceM m c).u.path.length≤m.u.path.length+1∧(pieceM m c).base=m.base∧(pieceM m c).p=m.p:=by
 have h1:=short_len { m with buf:=[] }
 unfold pieceM;dsimp only
 repeat' split
 all_goals refine ⟨?_,rfl,rfl⟩
 all_goals simp only [pushM,List.length_append,List.length_cons,List.length_nil,shortM,List.length_dropLast] at h1 ⊢
 all_goals omega
theorem pcs_step (x:RdP) (s:Nat) (c:Int) (hs:s < 17) (h:Pcs x s) (he:(stepP x s c).2.2.2=0):Pcs (behP (stepP x s c)) (stepP x s c).2.1:=by
 have h1:=h.1
 match s,hs,h,he with
 | 0,_,h,_ =>
   have h0:=h.2 (by decide)
   show Pcs (behP (beginP x c)) (beginP x c).2.1
   unfold beginP;split<;>exact pcs_nil h0
 | 1,_,h,he =>
   have h0:=h.2 (by decide)
   show Pcs (behP (schemeP x c)) (schemeP x c).2.1
   unfold schemeP
   split
   ·exact pcs_nil h0
   split
   ·unfold behindP
    repeat' split
    all_goals exact pcs_nil h0
   ·exact pcs_nil h0
 | 2,_,h,he =>
   have h0:=h.2 (by decide)
   show Pcs (behP (noSchemeP x c)) (noSchemeP x c).2.1
   unfold noSchemeP
   split
   ·exact pcs_nil h0
   split
   ·exact pcs_leave _ c (by show x.m.base.path.length≤x.m.base.path.length+x.m.p;omega)
   ·exact pcs_nil h0
 | 3,_,h,_ =>
   have h0:=h.2 (by decide)
   show Pcs (behP (slashOrP x c)) (slashOrP x c).2.1
   unfold slashOrP;split<;>exact pcs_nil h0
 | 4,_,h,_ =>
   have h0:=h.2 (by decide)
   show Pcs (behP (slashP x c)) (slashP x c).2.1
   unfold slashP;split<;>exact pcs_nil h0
 | 5,_,h,_ =>
   have h0:=h.2 (by decide)
   show Pcs (behP (relativeP x c)) (relativeP x c).2.1
   unfold relativeP
   split
   ·exact pcs_nil h0
   split
   ·exact pcs_leave _ c (by show x.m.base.path.length≤x.m.base.path.length+x.m.p;omega)
   ·refine ⟨?_,fun h=>absurd h (by show¬(13≤12);decide)⟩
    have:=short_len (noQueryM (baseM (relSchM x.m)))
    have e:(noQueryM (baseM (relSchM x.m))).u.path=x.m.base.path:=rfl
    rw [e] at this
    show (shortM (noQueryM (baseM (relSchM x.m)))).u.path.length≤x.m.base.path.length+(x.m.p+0)
    omega
 | 6,_,h,_ =>
   have h0:=h.2 (by decide)
   show Pcs (behP (relSlashP x c)) (relSlashP x c).2.1
   unfold relSlashP
   repeat' split
   all_goals exact pcs_nil h0
 | 7,_,h,_ =>
   have h0:=h.2 (by decide)
   show Pcs (behP (slashesP x c)) (slashesP x c).2.1
   unfold slashesP;split<;>exact pcs_nil h0
 | 8,_,h,_ =>
   have h0:=h.2 (by decide)
   show Pcs (behP (skipP x c)) (skipP x c).2.1
   unfold skipP;split<;>exact pcs_nil h0
 | 9,_,h,_ =>
   have h0:=h.2 (by decide)
   show Pcs (behP (authP x c)) (authP x c).2.1
   unfold authP
   repeat' split
   all_goals exact pcs_nil h0
 | 10,_,h,_ =>
   have h0:=h.2 (by decide)
   show Pcs (behP (hostP x c)) (hostP x c).2.1
   unfold hostP leaveHostP
   repeat' split
   all_goals exact pcs_nil h0
 | 11,_,h,_ =>
   have h0:=h.2 (by decide)
   show Pcs (behP (portP x c)) (portP x c).2.1
   unfold portP
   repeat' split
   all_goals exact pcs_nil h0
 | 12,_,h,_ =>
   have h0:=h.2 (by decide)
   show Pcs (behP (startP x c)) (startP x c).2.1
   unfold startP
   split
   ·exact pcs_nil h0
   split
   ·exact pcs_leave _ c h1
   ·exact pcs_nil h0
 | 13,_,h,_ =>
   show Pcs (behP (pathP x c)) (pathP x c).2.1
   obtain ⟨q1,q2,q3⟩:=piece_len x.m c
   unfold pathP
   split
   ·exact pcs_on (f:=(gatherM · c)) h1 rfl rfl (Nat.le_refl _) (by decide)
   split
   ·unfold leaveP
    repeat' split
    all_goals refine ⟨?_,fun h=>?_⟩
    all_goals first
     | (simp at h;done)
     | (simp only [behP,RdP.on,askM,markM];rw [q2,q3];omega)
   ·refine ⟨?_,fun h=>?_⟩
    ·simp only [behP,RdP.on];rw [q2,q3];omega
    ·simp at h
 | 14,_,h,_ =>
   show Pcs (behP (darkP x c)) (darkP x c).2.1
   unfold darkP
   split
   ·exact pcs_on (f:=(gatherM · c)) h1 rfl rfl (Nat.le_refl _) (by decide)
   ·exact pcs_leave _ c h1
 | 15,_,h,_ =>
   show Pcs (behP (queryP x c)) (queryP x c).2.1
   unfold queryP
   split
   ·exact pcs_on (f:=(gatherM · c)) h1 rfl rfl (Nat.le_refl _) (by decide)
   ·exact pcs_leave _ c h1
 | 16,_,h,_ =>
   show Pcs (behP (fragP x c)) (fragP x c).2.1
   unfold fragP
   split
   ·exact pcs_on (f:=(gatherM · c)) h1 rfl rfl (Nat.le_refl _) (by decide)
   ·exact pcs_on (f:=fragU) h1 rfl rfl (Nat.le_refl _) (by decide)
 | n+17,hs,_,_=>exact absurd hs (by omega)
structure RunI (x:RdP) (m:MaR) (s:Nat) (inp:List Int) (b:UrlN) (A:UrlN×Nat):Prop where
 s17:s≤17
 sim:Sim x m s
 len:Lens x s
 pcs:Pcs x s
 at_:s < 17→x.m.p≤x.m.inp.length
 ans_:ans m s=A
 inp_:x.m.inp=inp
 base:x.m.base=b
theorem sign_ge {l:List Int} (h:∀c∈l,0≤c) (p:Nat):-1≤signAt l p:=by
 unfold signAt
 cases e:l[p]? with
 | none=>exact Int.le_refl _
 | some c =>
   have:=h c (List.mem_of_getElem? e)
   show -1≤c
   omega
theorem behM_base (r:StR):(behM r).base=r.1.base:=by unfold behM;split<;>rfl
theorem run_look {x:RdP} {m:MaR} {s:Nat} {inp:List Int} {b:UrlN} {A:UrlN×Nat} (h:RunI x m s inp b A) (hs:s < 17) (hp:∀c∈inp,0≤c) :
 ((stepP x s (signAt inp x.m.p)).2.2.2≠0→A=(url0,(stepP x s (signAt inp x.m.p)).2.2.2)) ∧
 ((stepP x s (signAt inp x.m.p)).2.2.2=0→∃m',RunI (behP (stepP x s (signAt inp x.m.p))) m' (stepP x s (signAt inp x.m.p)).2.1 inp b A∧((stepP x s (signAt inp x.m.p)).2.1≠17→leftM (behP (stepP x s (signAt inp x.m.p))).m (stepP x s (signAt inp x.m.p)).2.1 < leftM x.m s)):=by
 obtain ⟨e1,e2,e3,e4⟩:=sim_same h.sim
 have hmi:m.inp=inp:=by rw [← e1];exact h.inp_
 have hmp:m.p≤m.inp.length:=by rw [← e1,← e2];exact h.at_ hs
 have hA:=ans_look m s hs hmp
 rw [h.ans_] at hA
 obtain ⟨c,hc⟩:∃c,signAt inp x.m.p=c:=⟨_,rfl⟩
 have hc2:signAt m.inp m.p=c:=by rw [hmi,← e2];exact hc
 have hge:-1≤c:=by rw [← hc];exact sign_ge hp _
 rw [hc]
 rw [hc2] at hA
 have hal:=sim_step x m s c hs h.sim hge (fun h11 d hd=>by
  subst h11
  have hx:x.m=m:=(sim_mid h.sim (Or.inr rfl)).1
  exact (h.len.2.2 rfl d (by rw [hx];exact hd)).1)
 have hdown:=step_down m s hs hmp
 have hleft:=left_down m s hs hmp
 have hle:=step_le m s hs hmp
 rw [hc2] at hdown hleft hle
 refine ⟨fun he=>?_,fun he=>?_⟩
 ·rw [hal.1] at he ⊢
  rw [hA,if_pos he]
 ·rw [hal.1] at he
  obtain ⟨k1,k2⟩:=hal.2 he
  rw [if_neg (fun h=>h he)] at hA
  have hz:s≤8→x.us=[]∧x.ps=[]:=fun h8=>by have:=sim_low h8 h.sim;exact ⟨this.2.1,this.2.2.1⟩
  have hl:=lens_step x s c hs h.len (by rw [hal.1];exact he) hz
  have hq:=pcs_step x s c hs h.pcs (by rw [hal.1];exact he)
  rw [k1] at hl hq ⊢
  obtain ⟨f1,f2,f3,f4⟩:=sim_same k2
  have hinp:(behP (stepP x s c)).m.inp=inp:=by rw [f1,behM_inp,hdown.1,hmi]
  refine ⟨behM (stepR m s c),⟨hle,k2,hl,hq,fun hlt=>?_,hA.symm,hinp,?_⟩,fun hne=>?_⟩
  ·rw [f1,f2];exact (hleft (by omega)).1
  ·rw [f3,behM_base,hdown.2.1,← e3];exact h.base
  ·have:=(hleft hne).2
   unfold leftM at this ⊢
   rw [f1,f2,e1,e2];exact this
end Go.Proofs.YtigfgloenjoeoaaGreatDoor
