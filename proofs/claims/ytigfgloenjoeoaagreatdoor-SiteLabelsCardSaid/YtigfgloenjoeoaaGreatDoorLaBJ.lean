import Derived.Test.YtigfgloenjoeoaaGreatDoorLaBE
import Derived.Test.YtigfgloenjoeoaaGreatDoorLaAV
import Derived.Test.YtigfgloenjoeoaaGreatDoorLaBC
set_option linter.unusedVariables false
set_option linter.unusedSimpArgs false
set_option maxRecDepth 20000
set_option maxHeartbeats 16000000
namespace Go.Proofs.YtigfgloenjoeoaaGreatDoor
def preS:List UInt8:=[104,116,116,112,115,58,47,47]
def preI:List Int:=[104,116,116,112,115,58,47,47]
def hts:List UInt8:=[104,116,116,112,115]
theorem drop_all {p:Int→Bool}:∀(a b:List Int),(a++b).dropWhile p=a.dropWhile p++b∨(a++b).dropWhile p=b.dropWhile p
 | [],b=>Or.inr rfl
 | x::r,b=>by
   cases h:p x
   ·exact Or.inl (by simp [List.dropWhile_cons,h])
   ·rw [List.cons_append,List.dropWhile_cons,h,List.dropWhile_cons,h];exact drop_all r b
theorem strip_pre (r:List UInt8):∃Y,stripRU (preS++r)=preI++Y:=by
 unfold stripRU
 have h1:lossyL (preS++r)=preI++lossyL r:=by
  have:=lossy_enc preI r (by decide)
  rw [← this]
  rfl
 rw [h1]
 generalize lossyL r=X
 have h2:(preI++X).dropWhile (fun c=>decide (c≤32))=preI++X:=by
  unfold preI
  rw [List.cons_append,List.dropWhile_cons]
  rfl
 rw [h2,List.reverse_append]
 have h3:∃Z,(X.reverse++preI.reverse).dropWhile (fun c=>decide (c≤32))=Z++preI.reverse:=by
  rcases drop_all (p:=fun c=>decide (c≤32)) X.reverse preI.reverse with h | h
  ·exact ⟨_,h⟩
  ·exact ⟨[],by rw [h];rfl⟩
 obtain ⟨Z,hZ⟩:=h3
 rw [hZ,List.reverse_append,List.reverse_reverse,List.filter_append]
 exact ⟨_,rfl⟩
def HtP (u:UrlN):Prop:=u.sch=hts∧(u.host.1=1→u.host.2.2=(0,z8))∧(u.host.1≠0→u.hasHost=true)∧u.host.2.1.length≤12000
theorem four_kind (p:Nat×Nat):(fourH p).1.1≠1:=by unfold fourH;split<;>(intro h;cases h)
theorem six_kind (p:List Nat×Nat):(sixH p).1.1≠1:=by unfold sixH;split<;>(intro h;cases h)
theorem host_kind (l:List UInt8) (b:Bool):(hostR l b).1.1=1→(hostR l b).1.2.2=(0,z8):=by
 unfold hostR
 split
 ·intro h;cases h
 split
 ·unfold bracketR
  split
  ·intro h;cases h
  ·exact fun h=>absurd h (six_kind _)
 split
 ·unfold specialR
  split
  ·unfold nameR
   split
   ·intro h;cases h
   split
   ·intro h;cases h
   split
   ·exact fun h=>absurd h (four_kind _)
   ·exact fun _=>rfl
  ·intro h;cases h
 ·unfold darkR
  split
  ·intro h;cases h
  split
  ·intro h;cases h
  ·intro h;cases h
theorem host_nm (l:List UInt8) (b:Bool):(hostR l b).1.2.1.length≤12000:=by
 obtain ⟨k,t,n,a0,a1,a2,a3,a4,a5,a6,a7,m,he,_,_,ht⟩:=host_parts l b
 rw [he];exact ht
theorem ht_host {m:MaR} (h:HtP m.u):HtP (hostM m).1.u:=⟨h.1,fun e=>host_kind _ _ e,fun _=>rfl,host_nm _ _⟩
theorem ht_step (m:MaR) (s:Nat) (c:Int) (h7:7≤s) (h:HtP m.u):(stepR m s c).2.2.2=0→7≤(stepR m s c).2.1∧HtP (stepR m s c).1.u:=by
 have hs:s=7∨s=8∨s=9∨s=10∨s=11∨s=12∨s=13∨s=14∨s=15∨16≤s:=by omega
 rcases hs with rfl | rfl | rfl | rfl | rfl | rfl | rfl | rfl | rfl | h16
 ·show (slashesR m 7 c).2.2.2=0→7≤(slashesR m 7 c).2.1∧HtP (slashesR m 7 c).1.u
  unfold slashesR
  split
  ·exact fun _=>⟨Nat.le_of_ble_eq_true rfl,h⟩
  ·rw [if_pos rfl];exact fun _=>⟨Nat.le_of_ble_eq_true rfl,h⟩
 ·show (if c=47∨c=92 then (m,8,false,0) else (m,9,true,0):StR).2.2.2=0→7≤(if c=47∨c=92 then (m,8,false,0) else (m,9,true,0):StR).2.1∧HtP (if c=47∨c=92 then (m,8,false,0) else (m,9,true,0):StR).1.u
  split
  ·exact fun _=>⟨Nat.le_of_ble_eq_true rfl,h⟩
  ·exact fun _=>⟨Nat.le_of_ble_eq_true rfl,h⟩
 ·show (whoAuthR m c).2.2.2=0→7≤(whoAuthR m c).2.1∧HtP (whoAuthR m c).1.u
  unfold whoAuthR
  split
  ·exact fun _=>⟨Nat.le_of_ble_eq_true rfl,h⟩
  split
  ·split
   ·intro e;cases e
   ·exact fun _=>⟨Nat.le_of_ble_eq_true rfl,h⟩
  ·exact fun _=>⟨Nat.le_of_ble_eq_true rfl,h⟩
 ·show (whoHostR m c).2.2.2=0→7≤(whoHostR m c).2.1∧HtP (whoHostR m c).1.u
  unfold whoHostR
  split
  ·split
   ·intro e;cases e
   ·exact fun _=>⟨Nat.le_of_ble_eq_true rfl,ht_host h⟩
  split
  ·split
   ·intro e;cases e
   ·exact fun _=>⟨Nat.le_of_ble_eq_true rfl,ht_host h⟩
  ·exact fun _=>⟨Nat.le_of_ble_eq_true rfl,h⟩
 ·show (whoPortR m c).2.2.2=0→7≤(whoPortR m c).2.1∧HtP (whoPortR m c).1.u
  unfold whoPortR
  split
  ·exact fun _=>⟨Nat.le_of_ble_eq_true rfl,h⟩
  split
  ·intro e;cases e
  split
  ·exact fun _=>⟨Nat.le_of_ble_eq_true rfl,h⟩
  split
  ·intro e;cases e
  ·exact fun _=>⟨Nat.le_of_ble_eq_true rfl,h⟩
 ·show (startR m c).2.2.2=0→7≤(startR m c).2.1∧HtP (startR m c).1.u
  unfold startR
  repeat' split
  all_goals exact fun _=>⟨Nat.le_of_ble_eq_true rfl,h⟩
 ·show (pathR m c).2.2.2=0→7≤(pathR m c).2.1∧HtP (pathR m c).1.u
  have hp:HtP (pieceM m c).u:=by
   unfold pieceM
   dsimp only
   repeat' split
   all_goals exact h
  unfold pathR
  repeat' split
  all_goals first | exact fun _=>⟨Nat.le_of_ble_eq_true rfl,h⟩ | exact fun _=>⟨Nat.le_of_ble_eq_true rfl,hp⟩
 ·show (darkM m c).2.2.2=0→7≤(darkM m c).2.1∧HtP (darkM m c).1.u
  unfold darkM
  repeat' split
  all_goals exact fun _=>⟨Nat.le_of_ble_eq_true rfl,h⟩
 ·show (queryR m c).2.2.2=0→7≤(queryR m c).2.1∧HtP (queryR m c).1.u
  unfold queryR
  repeat' split
  all_goals exact fun _=>⟨Nat.le_of_ble_eq_true rfl,h⟩
 ·have e:stepR m s c=fragR m c:=by unfold stepR backR;rw [if_neg (by omega),if_neg (by omega),if_neg (by omega),if_neg (by omega),if_neg (by omega),if_neg (by omega),if_neg (by omega)]
  rw [e]
  show (fragR m c).2.2.2=0→7≤(fragR m c).2.1∧HtP (fragR m c).1.u
  unfold fragR
  repeat' split
  all_goals exact fun _=>⟨Nat.le_of_ble_eq_true rfl,h⟩
theorem ht_run:∀(f:Nat) (m:MaR) (s:Nat),7≤s→HtP m.u→(runF f m s).2=0→HtP (runF f m s).1
 | 0,m,s,_,h=>fun _=>h
 | f+1,m,s,h7,h=>by
   rw [runF_step]
   split
   ·split
    ·intro e;cases e
    ·exact fun _=>h
   ·rename_i hne
    split
    ·rename_i he
     exact fun e=>absurd e he
    ·rename_i he
     have hz:(stepR m s (signAt m.inp m.p)).2.2.2=0:=Decidable.of_not_not he
     obtain ⟨k1,k2⟩:=ht_step m s _ h7 h hz
     refine ht_run f _ _ k1 ?_
     unfold behM
     split
     ·exact k2
     ·exact k2
theorem at_whole (m:MaR) (h:m.p=0):At m m.inp:=⟨by rw [h];rfl,by rw [h];exact Nat.zero_le _⟩
theorem ht_zero:HtP { urlM with sch:=hts }:=⟨rfl,fun e=>absurd (show (0:Int)=1 from e) (by decide),fun e=>absurd (show (0:Int)=0 from rfl) e,Nat.zero_le _⟩
theorem ht_url (r:List UInt8) (h:(urlR (preS++r) url0 false).2=0):HtP (urlR (preS++r) url0 false).1:=by
 by_cases hl:4000 < (preS++r).length
 ·unfold urlR at h
  rw [if_pos hl] at h
  cases h
 obtain ⟨Y,hY⟩:=strip_pre r
 rw [urlR_ans hl] at h ⊢
 have hm:maR (preS++r) url0 false=⟨preI++Y,0,urlM,url0,false,[],false,false,false⟩:=by unfold maR;rw [hY]
 rw [hm] at h ⊢
 have key:ans ⟨preI++Y,0,urlM,url0,false,[],false,false,false⟩ 0=ans ⟨preI++Y,6,{ urlM with sch:=hts },url0,false,[],false,false,false⟩ 7:=by
  have a0:At ⟨preI++Y,0,urlM,url0,false,[],false,false,false⟩ (104::116::116::112::115::58::47::47::Y):=at_whole _ rfl
  rw [ans_at a0 (by decide) (m':=⟨preI++Y,0,urlM,url0,false,[104],false,false,false⟩) (t:=1) (a:=false) rfl]
  have a1:At (behM (⟨preI++Y,0,urlM,url0,false,[104],false,false,false⟩,1,false,0)) (116::116::112::115::58::47::47::Y):=a0.tail rfl rfl
  rw [ans_at a1 (by decide) (m':=⟨preI++Y,1,urlM,url0,false,[104,116],false,false,false⟩) (t:=1) (a:=false) rfl]
  have a2:At (behM (⟨preI++Y,1,urlM,url0,false,[104,116],false,false,false⟩,1,false,0)) (116::112::115::58::47::47::Y):=a1.tail rfl rfl
  rw [ans_at a2 (by decide) (m':=⟨preI++Y,2,urlM,url0,false,[104,116,116],false,false,false⟩) (t:=1) (a:=false) rfl]
  have a3:At (behM (⟨preI++Y,2,urlM,url0,false,[104,116,116],false,false,false⟩,1,false,0)) (112::115::58::47::47::Y):=a2.tail rfl rfl
  rw [ans_at a3 (by decide) (m':=⟨preI++Y,3,urlM,url0,false,[104,116,116,112],false,false,false⟩) (t:=1) (a:=false) rfl]
  have a4:At (behM (⟨preI++Y,3,urlM,url0,false,[104,116,116,112],false,false,false⟩,1,false,0)) (115::58::47::47::Y):=a3.tail rfl rfl
  rw [ans_at a4 (by decide) (m':=⟨preI++Y,4,urlM,url0,false,[104,116,116,112,115],false,false,false⟩) (t:=1) (a:=false) rfl]
  have a5:At (behM (⟨preI++Y,4,urlM,url0,false,[104,116,116,112,115],false,false,false⟩,1,false,0)) (58::47::47::Y):=a4.tail rfl rfl
  rw [ans_at a5 (by decide) (m':=⟨preI++Y,5,{ urlM with sch:=hts },url0,false,[],false,false,false⟩) (t:=7) (a:=false) (by first | rfl | decide)]
  rfl
 rw [key] at h ⊢
 exact ht_run _ _ _ (Nat.le_of_ble_eq_true rfl) ht_zero h
theorem ht_origin {u:UrlN} (h:HtP u) (hk:u.host.1=1):∃p,originN u=((hts,(1,u.host.2.1,0,z8),p),true):=by
 have h1:=h.2.1 hk
 have h2:u.hasHost=true:=h.2.2.1 (by rw [hk];decide)
 have e:u.host=(1,u.host.2.1,0,z8):=Prod.ext hk (Prod.ext rfl h1)
 unfold originN
 rw [if_neg (by rw [h.1,h2];decide),h.1]
 exact ⟨_,by rw [e]⟩
theorem ht_site {u:UrlN} (h:HtP u) (hk:u.host.1=1) (l:List (List UInt8)):siteN u l=((hts,(1,siteW u.host.2.1 (suffixN u.host.2.1 l),0,z8),0),true):=by
 obtain ⟨p,hp⟩:=ht_origin h hk
 unfold siteN
 rw [hp,if_pos rfl]
 rfl
theorem site_ends (n s:List UInt8) (h:fitsB n s=true):∃q,siteW n s=q++s:=by
 rcases (fits_iff n s).1 h with rfl | ⟨a,rfl⟩
 ·exact ⟨[],siteW_eq n⟩
 ·exact ⟨tailOf 46 a++[46],by rw [siteW_app];simp⟩
theorem tail_len (l:List UInt8):(tailOf 46 l).length≤l.length:=by
 rcases tail_suf 46 l with h | ⟨a,b,rfl,h⟩
 ·rw [tail_free h];exact Nat.le_refl _
 ·rw [tail_app a h];simp;omega
theorem siteW_len {n s:List UInt8} (h:fitsB n s=true):(siteW n s).length≤n.length:=by
 rcases (fits_iff n s).1 h with rfl | ⟨a,rfl⟩
 ·rw [siteW_eq];exact Nat.le_refl _
 ·rw [siteW_app]
  have:=tail_len a
  simp;omega
theorem tail_no (l:List UInt8):∀x∈tailOf 46 l,x≠46:=by
 rcases tail_suf 46 l with h | ⟨a,b,rfl,h⟩
 ·rw [tail_free h];exact h
 ·rw [tail_app a h];exact h
theorem site_more {n s:List UInt8} (h:fitsB n s=true) (hne:siteW n s≠s):∃q,siteW n s=q++46::s∧(∀x∈q,x≠46)∧∀x:List UInt8,siteW (x++46::n) s=siteW n s:=by
 rcases (fits_iff n s).1 h with rfl | ⟨a,rfl⟩
 ·exact absurd (siteW_eq n) hne
 ·refine ⟨tailOf 46 a,siteW_app a s,tail_no a,fun x=>?_⟩
  have e:x++46::(a++46::s)=(x++46::a)++46::s:=by simp
  rw [e,siteW_app,siteW_app,tail_behind]
end Go.Proofs.YtigfgloenjoeoaaGreatDoor
