import Derived.Test.YtigfgloenjoeoaaGreatDoorLaBV
import Derived.Test.YtigfgloenjoeoaaGreatDoorLaBG
import Derived.Test.YtigfgloenjoeoaaGreatDoorLaBW
import Derived.Great.BuildSlice
set_option linter.unusedVariables false
set_option linter.unusedSimpArgs false
set_option maxRecDepth 20000
set_option maxHeartbeats 16000000
namespace Go.Proofs.YtigfgloenjoeoaaGreatDoor
open Go.RowKit
theorem eq_hostD (d:Nat) (k:Int) (s:ByteArray) (n p0 p1 p2 p3 p4 p5 p6 p7:Nat) (k':Int) (s':ByteArray) (n' q0 q1 q2 q3 q4 q5 q6 q7:Nat) (w:World):(Op.equalIn (d+1+1+1) 26 (.agg #[.int .i64 k,.string s,.int .u32 (n:Int),.int .u16 (p0:Int),.int .u16 (p1:Int),.int .u16 (p2:Int),.int .u16 (p3:Int),.int .u16 (p4:Int),.int .u16 (p5:Int),.int .u16 (p6:Int),.int .u16 (p7:Int)]) (.agg #[.int .i64 k',.string s',.int .u32 (n':Int),.int .u16 (q0:Int),.int .u16 (q1:Int),.int .u16 (q2:Int),.int .u16 (q3:Int),.int .u16 (q4:Int),.int .u16 (q5:Int),.int .u16 (q6:Int),.int .u16 (q7:Int)])).run Tryz.prog w=.ok (sameV k s n p0 p1 p2 p3 p4 p5 p6 p7 k' s' n' q0 q1 q2 q3 q4 q5 q6 q7) w:=by
 have e8:=fun d w=>eq_arrD d (p0:Int) (p1:Int) (p2:Int) (p3:Int) (p4:Int) (p5:Int) (p6:Int) (p7:Int) (q0:Int) (q1:Int) (q2:Int) (q3:Int) (q4:Int) (q5:Int) (q6:Int) (q7:Int) w
 have u1:=Tryz.underlying3
 have u2:=Tryz.underlying9
 have u3:=Tryz.underlying22
 have a1:=Tryz.isAgg3
 have a2:=Tryz.isAgg9
 have a3:=Tryz.isAgg22
 have a4:=Tryz.isAgg24
 have z4:=Tryz.sizeOf24
 rw [run_equalIn_struct (P:=Tryz.prog) w (d+1+1) 26 _ _ (by kernel_rfl) (by kernel_rfl)]
 simp only [Program.fieldsOf,Tryz.underlying26]
 go_simp
 unfold sameV
 by_cases h1:k=k'
 ·by_cases h2:s.toList=s'.toList
  ·by_cases h3:(n:Int)=(n':Int)
   ·cases same8 (p0:Int) (p1:Int) (p2:Int) (p3:Int) (p4:Int) (p5:Int) (p6:Int) (p7:Int) (q0:Int) (q1:Int) (q2:Int) (q3:Int) (q4:Int) (q5:Int) (q6:Int) (q7:Int)<;>simp [h1,h2,h3]
   ·simp [h1,h2,h3]
  ·simp [h1,h2]
 ·simp [h1]
theorem chk_hostD (d:Nat) (b:Bool) (k:Int) (s:ByteArray) (n p0 p1 p2 p3 p4 p5 p6 p7:Nat) (w:World):(Instr.checkKey b (d+1+1+1) 26 (.agg #[.int .i64 k,.string s,.int .u32 (n:Int),.int .u16 (p0:Int),.int .u16 (p1:Int),.int .u16 (p2:Int),.int .u16 (p3:Int),.int .u16 (p4:Int),.int .u16 (p5:Int),.int .u16 (p6:Int),.int .u16 (p7:Int)])).run Tryz.prog w=.ok () w:=by
 have a1:=Tryz.isAgg3
 have a2:=Tryz.isAgg9
 have a3:=Tryz.isAgg22
 have a4:=Tryz.isAgg24
 have z4:=Tryz.sizeOf24
 have c1:=fun w=>chk_i64 b (d+1) k w
 have c2:=fun w=>chk_str b (d+1) s w
 have c3:=fun w=>chk_u32 b (d+1) (n:Int) w
 have c4:=fun w=>chk_arr8 b d (p0:Int) (p1:Int) (p2:Int) (p3:Int) (p4:Int) (p5:Int) (p6:Int) (p7:Int) w
 rw [Instr.checkKey]
 simp only [Sem.run_bind,run_underlying Tryz.underlying26,Result.andThen_ok]
 simp only [← Array.forIn_toList,List.forIn_cons,List.forIn_nil]
 go_simp
def sameQ (t:ByteArray) (k:Int) (s:ByteArray) (n p0 p1 p2 p3 p4 p5 p6 p7:Nat) (r:Int) (t':ByteArray) (k':Int) (s':ByteArray) (n' q0 q1 q2 q3 q4 q5 q6 q7:Nat) (r':Int):Bool:=t.toList==t'.toList&&(sameV k s n p0 p1 p2 p3 p4 p5 p6 p7 k' s' n' q0 q1 q2 q3 q4 q5 q6 q7&&r==r')
theorem eq_orgL (t:ByteArray) (k:Int) (s:ByteArray) (n p0 p1 p2 p3 p4 p5 p6 p7:Nat) (r:Int) (t':ByteArray) (k':Int) (s':ByteArray) (n' q0 q1 q2 q3 q4 q5 q6 q7:Nat) (r':Int) (w:World):(Op.equalIn 10000 OT (.agg #[.string t,.int .i64 k,.string s,.int .u32 (n:Int),.int .u16 (p0:Int),.int .u16 (p1:Int),.int .u16 (p2:Int),.int .u16 (p3:Int),.int .u16 (p4:Int),.int .u16 (p5:Int),.int .u16 (p6:Int),.int .u16 (p7:Int),.int .i64 r]) (.agg #[.string t',.int .i64 k',.string s',.int .u32 (n':Int),.int .u16 (q0:Int),.int .u16 (q1:Int),.int .u16 (q2:Int),.int .u16 (q3:Int),.int .u16 (q4:Int),.int .u16 (q5:Int),.int .u16 (q6:Int),.int .u16 (q7:Int),.int .i64 r'])).run Tryz.prog w=.ok (sameQ t k s n p0 p1 p2 p3 p4 p5 p6 p7 r t' k' s' n' q0 q1 q2 q3 q4 q5 q6 q7 r') w:=by
 have eh:=fun w=>eq_hostD 9996 k s n p0 p1 p2 p3 p4 p5 p6 p7 k' s' n' q0 q1 q2 q3 q4 q5 q6 q7 w
 have u1:=Tryz.underlying3
 have u2:=Tryz.underlying9
 have a1:=Tryz.isAgg3
 have a2:=Tryz.isAgg9
 have a4:=Tryz.isAgg26
 have z4:=Tryz.sizeOf26
 rw [show (10000:Nat)=9996+1+1+1+1 from rfl,run_equalIn_struct (P:=Tryz.prog) w (9996+1+1+1) 35 _ _ (by kernel_rfl) (by kernel_rfl)]
 simp only [Program.fieldsOf,Tryz.underlying35]
 go_simp
 unfold sameQ
 by_cases h1:t.toList=t'.toList
 ·cases sameV k s n p0 p1 p2 p3 p4 p5 p6 p7 k' s' n' q0 q1 q2 q3 q4 q5 q6 q7<;>by_cases h3:r=r'<;>simp [h1,h3]
 ·simp [h1]
theorem chk_org (b:Bool) (t:ByteArray) (k:Int) (s:ByteArray) (n p0 p1 p2 p3 p4 p5 p6 p7:Nat) (r:Int) (w:World):(Instr.checkKey b 10000 OT (.agg #[.string t,.int .i64 k,.string s,.int .u32 (n:Int),.int .u16 (p0:Int),.int .u16 (p1:Int),.int .u16 (p2:Int),.int .u16 (p3:Int),.int .u16 (p4:Int),.int .u16 (p5:Int),.int .u16 (p6:Int),.int .u16 (p7:Int),.int .i64 r])).run Tryz.prog w=.ok () w:=by
 have a1:=Tryz.isAgg3
 have a2:=Tryz.isAgg9
 have a4:=Tryz.isAgg26
 have z4:=Tryz.sizeOf26
 have c1:=fun w=>chk_i64 b 9998 r w
 have c2:=fun w=>chk_str b 9998 t w
 have c4:=fun w=>chk_hostD 9996 b k s n p0 p1 p2 p3 p4 p5 p6 p7 w
 rw [show (10000:Nat)=9999+1 from rfl,Instr.checkKey]
 simp only [Sem.run_bind,run_underlying Tryz.underlying35,Result.andThen_ok]
 simp only [← Array.forIn_toList,List.forIn_cons,List.forIn_nil]
 go_simp
abbrev MpT:TypeId:=45
def sameO (o p:OrgN):Bool:=sameQ (strOf o.1) o.2.1.1 (strOf o.2.1.2.1) o.2.1.2.2.1 (o.2.1.2.2.2.getD 0 0) (o.2.1.2.2.2.getD 1 0) (o.2.1.2.2.2.getD 2 0) (o.2.1.2.2.2.getD 3 0) (o.2.1.2.2.2.getD 4 0) (o.2.1.2.2.2.getD 5 0) (o.2.1.2.2.2.getD 6 0) (o.2.1.2.2.2.getD 7 0) o.2.2 (strOf p.1) p.2.1.1 (strOf p.2.1.2.1) p.2.1.2.2.1 (p.2.1.2.2.2.getD 0 0) (p.2.1.2.2.2.getD 1 0) (p.2.1.2.2.2.getD 2 0) (p.2.1.2.2.2.getD 3 0) (p.2.1.2.2.2.getD 4 0) (p.2.1.2.2.2.getD 5 0) (p.2.1.2.2.2.getD 6 0) (p.2.1.2.2.2.getD 7 0) p.2.2
theorem eq_orgV (o p:OrgN) (w:World):(Op.equalIn 10000 OT (orgV o) (orgV p)).run Tryz.prog w=.ok (sameO o p) w:=eq_orgL _ _ _ _ _ _ _ _ _ _ _ _ _ _ _ _ _ _ _ _ _ _ _ _ _ _ w
theorem chk_orgV (b:Bool) (o:OrgN) (w:World):(Instr.checkKey b 10000 OT (orgV o)).run Tryz.prog w=.ok () w:=chk_org b _ _ _ _ _ _ _ _ _ _ _ _ _ w
theorem list8 {l m:List Nat} (hl:l.length=8) (hm:m.length=8) (h:∀i,i < 8→l.getD i 0=m.getD i 0):l=m:=by
 refine List.ext_getElem (hl.trans hm.symm) (fun i h1 h2=>?_)
 have:=h i (by omega)
 rw [List.getD_eq_getElem?_getD,List.getD_eq_getElem?_getD,List.getElem?_eq_getElem h1,List.getElem?_eq_getElem h2] at this
 exact this
theorem sameO_iff {o p:OrgN} (ho:o.2.1.2.2.2.length=8) (hp:p.2.1.2.2.2.length=8):sameO o p=true↔o=p:=by
 unfold sameO sameQ
 rw [sameV_iff]
 simp only [Bool.and_eq_true,beq_iff_eq,ByteArray.toList_eq]
 constructor
 ·rintro ⟨h1,h2,h3⟩
  simp only [Prod.mk.injEq] at h2
  obtain ⟨k1,k2,k3,k4⟩:=h2
  simp only [List.cons.injEq,and_true] at k4
  obtain ⟨a0,a1,a2,a3,a4,a5,a6,a7⟩:=k4
  have h8:o.2.1.2.2.2=p.2.1.2.2.2:=list8 ho hp (fun i hi=>by
   match i,hi with
   | 0,_=>exact a0
   | 1,_=>exact a1
   | 2,_=>exact a2
   | 3,_=>exact a3
   | 4,_=>exact a4
   | 5,_=>exact a5
   | 6,_=>exact a6
   | 7,_=>exact a7
   | n+8,h=>exact absurd h (by omega))
  exact Prod.ext h1 (Prod.ext (Prod.ext k1 (Prod.ext k2 (Prod.ext k3 h8))) h3)
 ·rintro rfl
  exact ⟨rfl,rfl,rfl⟩
theorem sameO_self (o:OrgN):sameO o o=true:=by
 unfold sameO sameQ
 rw [sameV_iff]
 simp
theorem find_nilO (o:OrgN) (w:World):(Instr.findKey OT (orgV o) []).run Tryz.prog w=.ok none w:=by
 unfold Instr.findKey
 simp only [Sem.run_bind,run_underlying Tryz.underlying35,Result.andThen_ok,Instr.findNow]
 rfl
theorem find_oneO (o p:OrgN) (v:Value) (b:Nat) (w:World):(Instr.findKey OT (orgV p) [⟨orgV o,v,b⟩]).run Tryz.prog w=.ok (if sameO p o=true then some (0,v) else none) w:=by
 have he:=eq_orgV p o w
 unfold Instr.findKey
 simp only [Sem.run_bind,run_underlying Tryz.underlying35,Result.andThen_ok,Instr.findNow,Instr.sameNow,Instr.findAsking,Op.equal,Op.maxDepth,he]
 cases hs:sameO p o<;>rfl
theorem find_twoO (o p:OrgN) (v v':Value) (b b':Nat) (w:World) (h:sameO p o=false):(Instr.findKey OT (orgV p) [⟨orgV o,v,b⟩,⟨orgV p,v',b'⟩]).run Tryz.prog w=.ok (some (1,v')) w:=by
 have he:=eq_orgV p o w
 have he2:=eq_orgV p p w
 rw [h] at he
 rw [sameO_self] at he2
 unfold Instr.findKey
 simp only [Sem.run_bind,run_underlying Tryz.underlying35,Result.andThen_ok,Instr.findNow,Instr.sameNow,Instr.findAsking,Op.equal,Op.maxDepth,he,Bool.false_eq_true,if_false,Sem.run_bind,he2,if_true]
 rfl
theorem look_nilO {w:World} {r c:Nat} (hb:w.heap[r]? = some (.map #[] c)) (o:OrgN):(Instr.lookup MpT (.map (some r)) (orgV o) false).run Tryz.prog w=.ok (.int .i64 0) w:=by
 have ht:=Tryz.underlying45
 have hz:(zeroValue 3).run Tryz.prog w=.ok (.int .i64 0) w:=Tryz.zeroValue3 w
 have hc:=chk_orgV true o w
 have hf:=find_nilO o w
 simp [Instr.lookup,run_underlying ht,MapKept.run_getObj_map hb,hc,hf,hz,Result.andThen]
theorem look_oneO {w:World} {r c b:Nat} {o:OrgN} {x:Int} (hb:w.heap[r]? = some (.map #[⟨orgV o,.int .i64 x,b⟩] c)) (p:OrgN):(Instr.lookup MpT (.map (some r)) (orgV p) false).run Tryz.prog w=.ok (.int .i64 (if sameO p o=true then x else 0)) w:=by
 have ht:=Tryz.underlying45
 have hz:(zeroValue 3).run Tryz.prog w=.ok (.int .i64 0) w:=Tryz.zeroValue3 w
 have hc:=chk_orgV false p w
 have hf:=find_oneO o p (.int .i64 x) b w
 cases hs:sameO p o with
 | true =>
   simp only [hs] at hf
   simp [Instr.lookup,run_underlying ht,MapKept.run_getObj_map hb,hc,hf,Result.andThen]
 | false =>
   simp only [hs] at hf
   simp [Instr.lookup,run_underlying ht,MapKept.run_getObj_map hb,hc,hf,hz,Result.andThen]
theorem look_twoO {w:World} {r c b b':Nat} {o p:OrgN} {x y:Int} (hb:w.heap[r]? = some (.map #[⟨orgV o,.int .i64 x,b⟩,⟨orgV p,.int .i64 y,b'⟩] c)) (h:sameO p o=false):(Instr.lookup MpT (.map (some r)) (orgV p) false).run Tryz.prog w=.ok (.int .i64 y) w:=by
 have ht:=Tryz.underlying45
 have hc:=chk_orgV false p w
 have hf:=find_twoO o p (.int .i64 x) (.int .i64 y) b b' w h
 simp [Instr.lookup,run_underlying ht,MapKept.run_getObj_map hb,hc,hf,Result.andThen]
theorem ent_nilO {w:World} {r c:Nat} (hb:w.heap[r]? = some (.map #[] c)) (o:OrgN):(Instr.mapEntry MpT (.map (some r)) (orgV o)).run Tryz.prog w=.ok (.tuple #[.int .i64 0,.int .i64 (c:Int)]) (putObjH w r (.map #[⟨orgV o,.int .i64 0,c⟩] (c+1))):=by
 have ht:=Tryz.underlying45
 have hz:(zeroValue 3).run Tryz.prog w=.ok (.int .i64 0) w:=Tryz.zeroValue3 w
 have hc:=chk_orgV false o w
 have hf:=find_nilO o w
 simp [Instr.mapEntry,run_underlying ht,MapKept.run_getObj_map hb,hc,hf,hz,MapKept.run_setObj_map _ hb,Result.andThen,putObjH,goInt]
theorem ent_newO {w:World} {r c b:Nat} {o p:OrgN} {v:Value} (hb:w.heap[r]? = some (.map #[⟨orgV o,v,b⟩] c)) (h:sameO p o=false):(Instr.mapEntry MpT (.map (some r)) (orgV p)).run Tryz.prog w=.ok (.tuple #[.int .i64 0,.int .i64 (c:Int)]) (putObjH w r (.map #[⟨orgV o,v,b⟩,⟨orgV p,.int .i64 0,c⟩] (c+1))):=by
 have ht:=Tryz.underlying45
 have hz:(zeroValue 3).run Tryz.prog w=.ok (.int .i64 0) w:=Tryz.zeroValue3 w
 have hc:=chk_orgV false p w
 have hf:=find_oneO o p v b w
 simp only [h] at hf
 simp [Instr.mapEntry,run_underlying ht,MapKept.run_getObj_map hb,hc,hf,hz,MapKept.run_setObj_map _ hb,Result.andThen,putObjH,goInt]
theorem bits_self:∀l:List Value,(∀v∈l,∃k x,v=.int k x∨∃s,v=.string s)→((l.zip l).all fun (x,y)=>Instr.sameBits 9999 x y)=true
 | [],_=>rfl
 | v::r,h=>by
   rw [List.zip_cons_cons,List.all_cons,bits_self r (fun x hx=>h x (List.mem_cons_of_mem _ hx)),Bool.and_true]
   obtain ⟨k,x,rfl | ⟨s,rfl⟩⟩:=h v List.mem_cons_self
   ·simp [Instr.sameBits]
   ·exact (MapKept.bytes_beq _ _).2 rfl
theorem bits_org (o:OrgN):Instr.sameBits 10000 (orgV o) (orgV o)=true:=by
 show ((orgC o).toArray.size==(orgC o).toArray.size&&(((orgC o).toArray.toList).zip ((orgC o).toArray.toList)).all fun (x,y)=>Instr.sameBits 9999 x y)=true
 rw [beq_self_eq_true,Bool.true_and]
 refine bits_self _ (fun v hv=>?_)
 simp only [orgC,List.mem_cons,List.not_mem_nil,or_false,u16v] at hv
 rcases hv with rfl | rfl | rfl | rfl | rfl | rfl | rfl | rfl | rfl | rfl | rfl | rfl | rfl
 all_goals first | exact ⟨.i64,0,Or.inr ⟨_,rfl⟩⟩ | exact ⟨_,_,Or.inl rfl⟩
theorem stays_org (o:OrgN) (w:World):(Instr.keyThatStays (orgV o) (orgV o)).run Tryz.prog w=.ok (orgV o) w:=by
 unfold Instr.keyThatStays
 rw [bits_org,if_pos rfl]
 rfl
theorem ent_oldO {w:World} {r c b:Nat} {o:OrgN} {v:Value} (hb:w.heap[r]? = some (.map #[⟨orgV o,v,b⟩] c)):(Instr.mapEntry MpT (.map (some r)) (orgV o)).run Tryz.prog w=.ok (.tuple #[v,.int .i64 (b:Int)]) (putObjH w r (.map #[⟨orgV o,v,b⟩] c)):=by
 have ht:=Tryz.underlying45
 have hc:=chk_orgV false o w
 have hf:=find_oneO o o v b w
 rw [sameO_self] at hf
 have hk:=stays_org o w
 simp [Instr.mapEntry,run_underlying ht,MapKept.run_getObj_map hb,hc,hf,hk,MapKept.run_setObj_map _ hb,Result.andThen,putObjH,goInt]
theorem sto_oneO {w:World} {r c b:Nat} {k v x:Value} (hb:w.heap[r]? = some (.map #[⟨k,v,b⟩] c)):(Instr.entryStore MpT (.map (some r)) (.int .i64 (b:Int)) x).run Tryz.prog w=.ok () (putObjH w r (.map #[⟨k,x,b⟩] c)):=by
 simp [Instr.entryStore,MapKept.run_getObj_map hb,MapKept.run_setObj_map _ hb,Result.andThen,putObjH,asInt,asIntOf]
theorem sto_twoO {w:World} {r c:Nat} {k k' v v' x:Value} (hb:w.heap[r]? = some (.map #[⟨k,v,0⟩,⟨k',v',1⟩] c)):(Instr.entryStore MpT (.map (some r)) (.int .i64 1) x).run Tryz.prog w=.ok () (putObjH w r (.map #[⟨k,v,0⟩,⟨k',x,1⟩] c)):=by
 simp [Instr.entryStore,MapKept.run_getObj_map hb,MapKept.run_setObj_map _ hb,Result.andThen,putObjH,asInt,asIntOf,List.findIdx?_cons]
theorem put_newO {w:World} {r c:Nat} (hb:w.heap[r]? = some (.map #[] c)) (o:OrgN) (v:Value):(Instr.mapUpdate MpT (.map (some r)) (orgV o) v).run Tryz.prog w=.ok () (putObjH w r (.map #[⟨orgV o,v,c⟩] (c+1))):=by
 have ht:=Tryz.underlying45
 have hc:=chk_orgV false o w
 have hf:=find_nilO o w
 simp [Instr.mapUpdate,run_underlying ht,MapKept.run_getObj_map hb,hc,hf,MapKept.run_setObj_map _ hb,Result.andThen,putObjH]
def MpAt (w:World) (M:Nat) (es:Array MapEntry) (c:Nat):Prop:=w.heap[M]? = some (.map es c)
theorem mp_lt {w:World} {M c:Nat} {es:Array MapEntry} (h:MpAt w M es c):M < w.heap.size:=by
 rcases Nat.lt_or_ge M w.heap.size with h' | h'
 ·exact h'
 ·unfold MpAt at h
  rw [Array.getElem?_eq_none h'] at h
  cases h
theorem MpAt.below {w w':World} {M c:Nat} {es:Array MapEntry} (h:MpAt w M es c) (hb:Below w.heap.size w w'):MpAt w' M es c:=(hb.block M (mp_lt h)).trans h
theorem MpAt.put {w:World} {M c c':Nat} {es es':Array MapEntry} (h:MpAt w M es c):MpAt (putObjH w M (.map es' c')) M es' c':=by
 have:=mp_lt h
 unfold MpAt putObjH
 rw [Array.getElem?_setIfInBounds_self_of_lt this]
theorem putO_other {w:World} {r j:Nat} (h:j≠r) (o:Obj):(putObjH w r o).heap[j]? = w.heap[j]? := by
 unfold putObjH
 rw [Array.getElem?_setIfInBounds_ne (fun e=>h e.symm)]
theorem putO_below {n r:Nat} {w w2:World} (h:Below n w w2) (hr:n≤r) (o:Obj):Below n w (putObjH w2 r o) :=
 ⟨h.os,h.tape,h.output,by unfold putObjH;simpa using h.size,fun j hj=>(putO_other (by omega) o).trans (h.block j hj)⟩
end Go.Proofs.YtigfgloenjoeoaaGreatDoor
namespace Go.Proofs.YtigfgloenjoeoaaGreatDoor
open Go.RowKit Go.Shelf
theorem info_urlZ:(Tryz.prog.info? UT).map (fun i=>(i.zero,i.size))=some (some (.agg #[.string ⟨#[]⟩,.string ⟨#[]⟩,.string ⟨#[]⟩,.bool false,.int .i64 0,.string ⟨#[]⟩,.int .u32 0,.int .u16 0,.int .u16 0,.int .u16 0,.int .u16 0,.int .u16 0,.int .u16 0,.int .u16 0,.int .u16 0,.int .i64 0,.bool false,.string ⟨#[]⟩,.slice none 0 0,.bool false,.string ⟨#[]⟩,.bool false,.string ⟨#[]⟩]),23):=by kernel_rfl
set_option maxRecDepth 100000 in
theorem fill_urls (u v:UrlN) (pu pv:Value):Instr.fill (fun i=>some (i * 23,23)) ((Array.range (2 * 23)).map ((Value.agg #[.string ⟨#[]⟩,.string ⟨#[]⟩,.string ⟨#[]⟩,.bool false,.int .i64 0,.string ⟨#[]⟩,.int .u32 0,.int .u16 0,.int .u16 0,.int .u16 0,.int .u16 0,.int .u16 0,.int .u16 0,.int .u16 0,.int .u16 0,.int .i64 0,.bool false,.string ⟨#[]⟩,.slice none 0 0,.bool false,.string ⟨#[]⟩,.bool false,.string ⟨#[]⟩]).cells[·%(Value.agg #[.string ⟨#[]⟩,.string ⟨#[]⟩,.string ⟨#[]⟩,.bool false,.int .i64 0,.string ⟨#[]⟩,.int .u32 0,.int .u16 0,.int .u16 0,.int .u16 0,.int .u16 0,.int .u16 0,.int .u16 0,.int .u16 0,.int .u16 0,.int .i64 0,.bool false,.string ⟨#[]⟩,.slice none 0 0,.bool false,.string ⟨#[]⟩,.bool false,.string ⟨#[]⟩]).cells.size]!)) [(0,.agg (urlC u pu).toArray),(1,.agg (urlC v pv).toArray)]=some (urlC u pu++urlC v pv).toArray:=by kernel_rfl
theorem wpList_urls {ops:Array Oper} {rest:List Oper} {o:Oper} {a:Act} {w:World} {Q:Exit→Act→World→Prop} (hg:o.guard=none) (x y:Operand) (ho:o.op=.buildSlice 59 2 #[(0,x),(1,y)])
 (u v:UrlN) (pu pv:Value) (hx:a.eval x=.agg (urlC u pu).toArray) (hy:a.eval y=.agg (urlC v pv).toArray)
 (h:wpList Tryz.prog ops Q rest (a.put o.dst (.slice (some ⟨w.heap.size,0,none⟩) 2 2)) (w.alloc (.cells (urlC u pu++urlC v pv).toArray UT))):wpList Tryz.prog ops Q (o::rest) a w:=by
 have hi:=info_urlZ
 cases hie:Tryz.prog.info? UT with
 | none=>rw [hie] at hi;cases hi
 | some ie =>
   rw [hie] at hi
   simp only [Option.map_some,Option.some.injEq,Prod.mk.injEq] at hi
   obtain ⟨hz,hs⟩:=hi
   refine wpList_buildSlice hg 59 UT 2 _ ho (urlC u pu++urlC v pv).toArray ie _ Tryz.underlying59 hie hz (by rw [hs];decide) (by rw [hs];decide) ?_ h
   rw [hs]
   simp only [List.map_toArray,List.map_cons,List.map_nil,hx,hy]
   exact fill_urls u v pu pv
theorem origin8 {u:UrlN} (h:u.host.2.2.2.length=8):(originN u).1.2.1.2.2.2.length=8:=by
 unfold originN
 split
 ·rfl
 ·exact h
theorem ssame_calls (u v:UrlN) (pu pv:Value) (w:World) (h1:u.sch.length≤100000) (h2:u.host.2.1.length≤100000) (h3:v.sch.length≤100000) (h4:v.host.2.1.length≤100000) (hp1:pu.oneCell'=true) (hp2:pv.oneCell'=true) (k1:u.host.2.2.2.length=8) (k2:v.host.2.2.2.length=8) :
 Calls Tryz.prog 18 #[.agg (urlC u pu).toArray,.agg (urlC v pv).toArray] w fun e w'=>e=.returned (.bool ((originN u).2&&((originN v).2&&sameO (originN v).1 (originN u).1)))∧Below w.heap.size w w':=by
 obtain ⟨A1,hA1⟩:∃A,(urlC u pu).toArray=A:=⟨_,rfl⟩
 obtain ⟨A2,hA2⟩:∃A,(urlC v pv).toArray=A:=⟨_,rfl⟩
 rw [hA1,hA2]
 have HA1:=hid hA1
 have HA2:=hid hA2
 have HOu:=hid (fun w=>sorigin_calls u pu w h1 h2)
 have HOv:=hid (fun w=>sorigin_calls v pv w h3 h4)
 have HO1:=hid (url_one u pu hp1)
 have HO2:=hid (url_one v pv hp2)
 have K1:=hid (origin8 k1)
 have K2:=hid (origin8 k2)
 clear k1 k2
 generalize originN u=Ou at *
 generalize originN v=Ov at *
 obtain ⟨o,ok⟩:=Ou
 obtain ⟨p,pk⟩:=Ov
 clear hA1 hA2 h1 h2 h3 h4 hp1 hp2
 go_enter Tryz.func18,Tryz.ntmps18
 go_upto_region 1 with fail
 have H2:=hid (two_new w A1 A2 UT UT)
 have HB1:Hid (Below w.heap.size w ((w.alloc (.cells A1 UT)).alloc (.cells A2 UT))):=hid H2.out.2.2
 have HU1:Hid (Bc UT ((w.alloc (.cells A1 UT)).alloc (.cells A2 UT)) w.heap.size (urlC u pu)):=by show _=_;rw [H2.out.1,HA1.out]
 have HU2:Hid (Bc UT ((w.alloc (.cells A1 UT)).alloc (.cells A2 UT)) (w.heap.size+1) (urlC v pv)):=by show _=_;rw [H2.out.2.1,HA2.out]
 clear H2 HA1 HA2
 generalize (w.alloc (.cells A1 UT)).alloc (.cells A2 UT)=w1 at *
 obtain ⟨U2,hU2⟩:∃R,w.heap.size+1=R:=⟨_,rfl⟩
 rw [hU2] at HU2 ⊢
 obtain ⟨U1,hU1⟩:∃U,w.heap.size=U:=⟨_,rfl⟩
 rw [hU1] at HU1 ⊢
 clear hU2 hU1
 have hmm:=@run_makeMap Tryz.prog
 have HM:Hid ((w1.alloc (.map #[] 0)).heap[w1.heap.size]? = some (.map #[] 0)):=heap_alloc_new w1 _
 have HMlt:Hid (U1 < w1.heap.size∧U2 < w1.heap.size):=⟨HU1.out.lt,HU2.out.lt⟩
 have HV1:Hid (Bc UT (w1.alloc (.map #[] 0)) U1 (urlC u pu)):=hid (HU1.out.below (ballC w1 _))
 have HV2:Hid (Bc UT (w1.alloc (.map #[] 0)) U2 (urlC v pv)):=hid (HU2.out.below (ballC w1 _))
 have HB2:Hid (Below w.heap.size w (w1.alloc (.map #[] 0))):=hid (HB1.out.alloc HB1.out.size _)
 have HBs:Hid (w.heap.size≤w1.heap.size):=hid HB1.out.size
 clear HU1 HU2 HB1
 go_upto_region 2 with fail
 generalize w1.alloc (.map #[] 0)=w2 at *
 generalize w1.heap.size=M at *
 clear hmm
 go_upto_region 3 with (first | refine wpList_load_mid rfl 29 _ rfl U1 0 rfl (urlC u pu) _ (url_range HV1.out) Tryz.underlying29 rfl info_url ?_ | refine wpList_load_mid rfl 29 _ rfl U2 0 rfl (urlC v pv) _ (url_range HV2.out) Tryz.underlying29 rfl info_url ?_ | refine wpList_urls rfl _ _ rfl u v pu pv rfl rfl ?_)
 have HSb:Hid (∀(j:Nat),(w2.alloc (.cells (urlC u pu++urlC v pv).toArray UT)).heap[w2.heap.size]? = some (.cells (urlC u pu++urlC v pv).toArray UT)):=hid (fun _=>heap_alloc_new w2 _)
 have HC:Hid (Bc UT (w2.alloc (.cells (urlC u pu++urlC v pv).toArray UT)) w2.heap.size (urlC u pu++urlC v pv)):=hid (heap_alloc_new w2 _)
 have HM3:Hid ((w2.alloc (.cells (urlC u pu++urlC v pv).toArray UT)).heap[M]? = some (.map #[] 0)):=hid (((ballC w2 _).block M (heap_lt HM.out)).trans HM.out)
 have HB3:=hid (HB2.out.trans ((ballC w2 (.cells (urlC u pu++urlC v pv).toArray UT)).mono HB2.out.size))
 clear HSb HV1 HV2 HM HB2
 generalize w2.alloc (.cells (urlC u pu++urlC v pv).toArray UT)=w3 at *
 generalize w2.heap.size=SB at *
 go_loopw [15] (fun i wr=>Bc UT wr SB (urlC u pu++urlC v pv)∧Below w.heap.size w wr∧((i=.int .i64 0∧wr.heap[M]? = some (.map #[] 0))∨(i=.int .i64 1∧ok=true∧wr.heap[M]? = some (.map #[⟨orgV o,.int .i64 1,0⟩] 1))∨(i=.int .i64 2∧ok=true∧pk=true∧∃es c,wr.heap[M]? = some (.map es c)∧es.size=if sameO p o=true then 1 else 2))) (fun i _=>2-(intOf i).toNat)
 case atStart=>exact ⟨HC.out,HB3.out,Or.inl ⟨rfl,HM3.out⟩⟩
 case round =>
  obtain ⟨hc,hb,hcase⟩:=hrel
  have HCw:=hid hc
  have HBw:=hid hb
  clear hc hb HC HM3 HB3
  have hR1:wr.rangeAt SB 0 (urlC u pu):=fun j x hx=>by
   have hj:j < (urlC u pu).length:=(List.getElem?_eq_some_iff.1 hx).1
   rw [Nat.zero_add]
   exact (HCw.out.cell j (by rw [List.getElem?_append_left hj];exact hx)).1
  have hR2:wr.rangeAt SB 23 (urlC v pv):=fun j x hx=>(HCw.out.cell (23+j) (by rw [List.getElem?_append_right (show (urlC u pu).length≤23+j from Nat.le_add_right 23 j)];rw [show 23+j-(urlC u pu).length=j from Nat.add_sub_cancel_left 23 j];exact hx)).1
  have HR1:=hid hR1
  have HR2:=hid hR2
  clear hR1 hR2
  rcases hcase with ⟨rfl,hm⟩ | ⟨rfl,hok,hm⟩ | ⟨rfl,hok,hpk,es,c,hm,hes⟩
  ·have HMw:Hid (MpAt wr M #[] 0):=hm
   clear hm
   have HMlo:Hid (w.heap.size≤M):=hid HBs.out
   have HNn:=hid (new_url wr u pu)
   have HC1:=hid (HCw.out.below (HNn.out.2))
   have HM2:=hid (HMw.out.below (HNn.out.2))
   have HB3:=hid (HBw.out.trans ((HNn.out.2).mono HBw.out.size))
   clear HCw HMw HBw
   have HT4:=hid HNn.out.1
   clear HNn
   go_upto_region 5 with (first | refine wpList_load_mid rfl 29 _ rfl SB 0 rfl (urlC u pu) _ HR1.out Tryz.underlying29 rfl info_url ?_ | (refine wpList_store_mid rfl 29 _ _ rfl wr.heap.size 0 (urlC u pu).toArray rfl rfl (new_urlT _) info_url HO1.out ?_;try simp only [List.toList_toArray];generalize (wr.alloc (.cells #[.string ⟨#[]⟩,.string ⟨#[]⟩,.string ⟨#[]⟩,.bool false,.int .i64 0,.string ⟨#[]⟩,.int .u32 0,.int .u16 0,.int .u16 0,.int .u16 0,.int .u16 0,.int .u16 0,.int .u16 0,.int .u16 0,.int .u16 0,.int .i64 0,.bool false,.string ⟨#[]⟩,.slice none 0 0,.bool false,.string ⟨#[]⟩,.bool false,.string ⟨#[]⟩] UT)).setCells wr.heap.size 0 (urlC u pu)=w1 at *;generalize wr.heap.size=T1 at *))
   go_wp2_with (refine wpList_load_mid rfl 29 _ rfl T1 0 rfl (urlC u pu) _ (url_range HT4.out) Tryz.underlying29 rfl info_url ?_)
   refine (HOu.out _).mono ?_
   rintro e w2 ⟨rfl,hb2⟩
   have HC5:=hid (HC1.out.below (hb2))
   have HM6:=hid (HM2.out.below (hb2))
   have HT7:=hid (HT4.out.below (hb2))
   have HB8:=hid (HB3.out.trans ((hb2).mono HB3.out.size))
   clear HC1 HM2 HT4 HB3
   clear hb2
   have HNn:=hid (new_org w2 o)
   have HC9:=hid (HC5.out.below (HNn.out.2))
   have HM10:=hid (HM6.out.below (HNn.out.2))
   have HT11:=hid (HT7.out.below (HNn.out.2))
   have HB12:=hid (HB8.out.trans ((HNn.out.2).mono HB8.out.size))
   clear HC5 HM6 HT7 HB8
   have HA13:=hid HNn.out.1
   clear HNn
   go_upto_region 6 with (refine wpList_store_mid rfl 35 _ _ rfl w2.heap.size 0 (orgC o).toArray rfl rfl (new_there _) info_org (org_one _) ?_;try simp only [List.toList_toArray];generalize (w2.alloc (.cells #[.string ⟨#[]⟩,.int .i64 0,.string ⟨#[]⟩,.int .u32 0,.int .u16 0,.int .u16 0,.int .u16 0,.int .u16 0,.int .u16 0,.int .u16 0,.int .u16 0,.int .u16 0,.int .i64 0] OT)).setCells w2.heap.size 0 (orgC o)=w3 at *;generalize w2.heap.size=O1 at *)
   cases ok
   ·clear HR1 HR2
    go_wp2_with fail
    go_ret
    exact ⟨by first | rfl | simp,HB12.out⟩
   ·obtain ⟨y0,hy0⟩:∃y,o.2.1.2.2.2.getD 0 0=y:=⟨_,rfl⟩
    obtain ⟨y1,hy1⟩:∃y,o.2.1.2.2.2.getD 1 0=y:=⟨_,rfl⟩
    obtain ⟨y2,hy2⟩:∃y,o.2.1.2.2.2.getD 2 0=y:=⟨_,rfl⟩
    obtain ⟨y3,hy3⟩:∃y,o.2.1.2.2.2.getD 3 0=y:=⟨_,rfl⟩
    obtain ⟨y4,hy4⟩:∃y,o.2.1.2.2.2.getD 4 0=y:=⟨_,rfl⟩
    obtain ⟨y5,hy5⟩:∃y,o.2.1.2.2.2.getD 5 0=y:=⟨_,rfl⟩
    obtain ⟨y6,hy6⟩:∃y,o.2.1.2.2.2.getD 6 0=y:=⟨_,rfl⟩
    obtain ⟨y7,hy7⟩:∃y,o.2.1.2.2.2.getD 7 0=y:=⟨_,rfl⟩
    have hK:orgV o=.agg #[.string (strOf o.1),.int .i64 o.2.1.1,.string (strOf o.2.1.2.1),.int .u32 (o.2.1.2.2.1:Int),.int .u16 (y0:Int),.int .u16 (y1:Int),.int .u16 (y2:Int),.int .u16 (y3:Int),.int .u16 (y4:Int),.int .u16 (y5:Int),.int .u16 (y6:Int),.int .u16 (y7:Int),.int .i64 o.2.2]:=by unfold orgV orgC;simp only [u16v,hy0,hy1,hy2,hy3,hy4,hy5,hy6,hy7]
    have HAd:=hid (HA13.out.below ((Below.refl w3.heap.size w3).drew))
    have HMd:=hid (HM10.out.below ((Below.refl w3.heap.size w3).drew))
    have HCd:=hid (HC9.out.below ((Below.refl w3.heap.size w3).drew))
    have HBd:=hid (HB12.out.drew)
    have d0:=(HAd.out.cell 0 rfl).1
    have d1:=(HAd.out.cell 1 rfl).1
    have d2:=(HAd.out.cell 2 rfl).1
    have d3:=(HAd.out.cell 3 rfl).1
    have d4:=(HAd.out.cell 4 rfl).1
    simp only [u16v,hy0] at d4
    have d5:=(HAd.out.cell 5 rfl).1
    simp only [u16v,hy1] at d5
    have d6:=(HAd.out.cell 6 rfl).1
    simp only [u16v,hy2] at d6
    have d7:=(HAd.out.cell 7 rfl).1
    simp only [u16v,hy3] at d7
    have d8:=(HAd.out.cell 8 rfl).1
    simp only [u16v,hy4] at d8
    have d9:=(HAd.out.cell 9 rfl).1
    simp only [u16v,hy5] at d9
    have d10:=(HAd.out.cell 10 rfl).1
    simp only [u16v,hy6] at d10
    have d11:=(HAd.out.cell 11 rfl).1
    simp only [u16v,hy7] at d11
    have d12:=(HAd.out.cell 12 rfl).1
    have HSBM:Hid (SB≠M):=by show _≠_;intro e;have h1:=HCd.out;have h2:=HMd.out;unfold Bc at h1;unfold MpAt at h2;rw [e,h2] at h1;cases h1
    have f1:=look_nilO HMd.out o
    have f2:=ent_nilO HMd.out o
    have HM1:Hid (MpAt (putObjH w3.drew M (.map #[⟨orgV o,.int .i64 0,0⟩] 1)) M #[⟨orgV o,.int .i64 0,0⟩] 1):=hid HMd.out.put
    have f3:=look_oneO HM1.out o
    have f4:=sto_oneO (x:=.int .i64 1) HM1.out
    rw [sameO_self,if_pos rfl] at f3
    rw [show ((0:Nat):Int)=0 from rfl] at f2 f4
    have HMf:Hid (MpAt (putObjH (putObjH w3.drew M (.map #[⟨orgV o,.int .i64 0,0⟩] 1)) M (.map #[⟨orgV o,.int .i64 1,0⟩] 1)) M #[⟨orgV o,.int .i64 1,0⟩] 1):=hid HM1.out.put
    have HCf:Hid (Bc UT (putObjH (putObjH w3.drew M (.map #[⟨orgV o,.int .i64 0,0⟩] 1)) M (.map #[⟨orgV o,.int .i64 1,0⟩] 1)) SB (urlC u pu++urlC v pv)):=hid ((putO_other HSBM.out _).trans ((putO_other HSBM.out _).trans HCd.out))
    have HBf:Hid (Below w.heap.size w (putObjH (putObjH w3.drew M (.map #[⟨orgV o,.int .i64 0,0⟩] 1)) M (.map #[⟨orgV o,.int .i64 1,0⟩] 1))):=hid (putO_below (putO_below HBd.out HMlo.out _) HMlo.out _)
    clear HM1 HMd HCd HBd HAd HSBM HR1 HR2
    rw [hK] at f1 f2 f3 f4 HMf HCf HBf
    go_upto_region 8 with fail
    go_region
    all_goals
     clear f1 f2 f3 f4 d0 d1 d2 d3 d4 d5 d6 d7 d8 d9 d10 d11 d12
     generalize (putObjH (putObjH w3.drew M (.map #[⟨(.agg #[.string (strOf o.1),.int .i64 o.2.1.1,.string (strOf o.2.1.2.1),.int .u32 (o.2.1.2.2.1:Int),.int .u16 (y0:Int),.int .u16 (y1:Int),.int .u16 (y2:Int),.int .u16 (y3:Int),.int .u16 (y4:Int),.int .u16 (y5:Int),.int .u16 (y6:Int),.int .u16 (y7:Int),.int .i64 o.2.2]),.int .i64 0,0⟩] 1)) M (.map #[⟨(.agg #[.string (strOf o.1),.int .i64 o.2.1.1,.string (strOf o.2.1.2.1),.int .u32 (o.2.1.2.2.1:Int),.int .u16 (y0:Int),.int .u16 (y1:Int),.int .u16 (y2:Int),.int .u16 (y3:Int),.int .u16 (y4:Int),.int .u16 (y5:Int),.int .u16 (y6:Int),.int .u16 (y7:Int),.int .i64 o.2.2]),.int .i64 1,0⟩] 1))=wf at *
     go_wp2_with fail
     go_roundw
     case rel=>exact ⟨HCf.out,HBf.out,Or.inr (Or.inl ⟨by first | rfl | trivial,by first | rfl | trivial,by rw [hK];exact HMf.out⟩)⟩
     case measure=>simp [intOf]
  ·have HMw:Hid (MpAt wr M #[⟨orgV o,.int .i64 1,0⟩] 1):=hm
   clear hm
   subst hok
   have HMlo:Hid (w.heap.size≤M):=hid HBs.out
   have HNn:=hid (new_url wr v pv)
   have HC1:=hid (HCw.out.below (HNn.out.2))
   have HM2:=hid (HMw.out.below (HNn.out.2))
   have HB3:=hid (HBw.out.trans ((HNn.out.2).mono HBw.out.size))
   clear HCw HMw HBw
   have HT4:=hid HNn.out.1
   clear HNn
   go_upto_region 5 with (first | refine wpList_load_mid rfl 29 _ rfl SB 23 rfl (urlC v pv) _ HR2.out Tryz.underlying29 rfl info_url ?_ | (refine wpList_store_mid rfl 29 _ _ rfl wr.heap.size 0 (urlC v pv).toArray rfl rfl (new_urlT _) info_url HO2.out ?_;try simp only [List.toList_toArray];generalize (wr.alloc (.cells #[.string ⟨#[]⟩,.string ⟨#[]⟩,.string ⟨#[]⟩,.bool false,.int .i64 0,.string ⟨#[]⟩,.int .u32 0,.int .u16 0,.int .u16 0,.int .u16 0,.int .u16 0,.int .u16 0,.int .u16 0,.int .u16 0,.int .u16 0,.int .i64 0,.bool false,.string ⟨#[]⟩,.slice none 0 0,.bool false,.string ⟨#[]⟩,.bool false,.string ⟨#[]⟩] UT)).setCells wr.heap.size 0 (urlC v pv)=w1 at *;generalize wr.heap.size=T1 at *))
   go_wp2_with (refine wpList_load_mid rfl 29 _ rfl T1 0 rfl (urlC v pv) _ (url_range HT4.out) Tryz.underlying29 rfl info_url ?_)
   refine (HOv.out _).mono ?_
   rintro e w2 ⟨rfl,hb2⟩
   have HC5:=hid (HC1.out.below (hb2))
   have HM6:=hid (HM2.out.below (hb2))
   have HT7:=hid (HT4.out.below (hb2))
   have HB8:=hid (HB3.out.trans ((hb2).mono HB3.out.size))
   clear HC1 HM2 HT4 HB3
   clear hb2
   have HNn:=hid (new_org w2 p)
   have HC9:=hid (HC5.out.below (HNn.out.2))
   have HM10:=hid (HM6.out.below (HNn.out.2))
   have HT11:=hid (HT7.out.below (HNn.out.2))
   have HB12:=hid (HB8.out.trans ((HNn.out.2).mono HB8.out.size))
   clear HC5 HM6 HT7 HB8
   have HA13:=hid HNn.out.1
   clear HNn
   go_upto_region 6 with (refine wpList_store_mid rfl 35 _ _ rfl w2.heap.size 0 (orgC p).toArray rfl rfl (new_there _) info_org (org_one _) ?_;try simp only [List.toList_toArray];generalize (w2.alloc (.cells #[.string ⟨#[]⟩,.int .i64 0,.string ⟨#[]⟩,.int .u32 0,.int .u16 0,.int .u16 0,.int .u16 0,.int .u16 0,.int .u16 0,.int .u16 0,.int .u16 0,.int .u16 0,.int .i64 0] OT)).setCells w2.heap.size 0 (orgC p)=w3 at *;generalize w2.heap.size=O1 at *)
   cases pk
   ·clear HR1 HR2
    go_wp2_with fail
    go_ret
    exact ⟨by first | rfl | simp,HB12.out⟩
   ·obtain ⟨y0,hy0⟩:∃y,p.2.1.2.2.2.getD 0 0=y:=⟨_,rfl⟩
    obtain ⟨y1,hy1⟩:∃y,p.2.1.2.2.2.getD 1 0=y:=⟨_,rfl⟩
    obtain ⟨y2,hy2⟩:∃y,p.2.1.2.2.2.getD 2 0=y:=⟨_,rfl⟩
    obtain ⟨y3,hy3⟩:∃y,p.2.1.2.2.2.getD 3 0=y:=⟨_,rfl⟩
    obtain ⟨y4,hy4⟩:∃y,p.2.1.2.2.2.getD 4 0=y:=⟨_,rfl⟩
    obtain ⟨y5,hy5⟩:∃y,p.2.1.2.2.2.getD 5 0=y:=⟨_,rfl⟩
    obtain ⟨y6,hy6⟩:∃y,p.2.1.2.2.2.getD 6 0=y:=⟨_,rfl⟩
    obtain ⟨y7,hy7⟩:∃y,p.2.1.2.2.2.getD 7 0=y:=⟨_,rfl⟩
    have hK:orgV p=.agg #[.string (strOf p.1),.int .i64 p.2.1.1,.string (strOf p.2.1.2.1),.int .u32 (p.2.1.2.2.1:Int),.int .u16 (y0:Int),.int .u16 (y1:Int),.int .u16 (y2:Int),.int .u16 (y3:Int),.int .u16 (y4:Int),.int .u16 (y5:Int),.int .u16 (y6:Int),.int .u16 (y7:Int),.int .i64 p.2.2]:=by unfold orgV orgC;simp only [u16v,hy0,hy1,hy2,hy3,hy4,hy5,hy6,hy7]
    have HAd:=hid (HA13.out.below ((Below.refl w3.heap.size w3).drew))
    have HMd:=hid (HM10.out.below ((Below.refl w3.heap.size w3).drew))
    have HCd:=hid (HC9.out.below ((Below.refl w3.heap.size w3).drew))
    have HBd:=hid (HB12.out.drew)
    have d0:=(HAd.out.cell 0 rfl).1
    have d1:=(HAd.out.cell 1 rfl).1
    have d2:=(HAd.out.cell 2 rfl).1
    have d3:=(HAd.out.cell 3 rfl).1
    have d4:=(HAd.out.cell 4 rfl).1
    simp only [u16v,hy0] at d4
    have d5:=(HAd.out.cell 5 rfl).1
    simp only [u16v,hy1] at d5
    have d6:=(HAd.out.cell 6 rfl).1
    simp only [u16v,hy2] at d6
    have d7:=(HAd.out.cell 7 rfl).1
    simp only [u16v,hy3] at d7
    have d8:=(HAd.out.cell 8 rfl).1
    simp only [u16v,hy4] at d8
    have d9:=(HAd.out.cell 9 rfl).1
    simp only [u16v,hy5] at d9
    have d10:=(HAd.out.cell 10 rfl).1
    simp only [u16v,hy6] at d10
    have d11:=(HAd.out.cell 11 rfl).1
    simp only [u16v,hy7] at d11
    have d12:=(HAd.out.cell 12 rfl).1
    have HSBM:Hid (SB≠M):=by show _≠_;intro e;have h1:=HCd.out;have h2:=HMd.out;unfold Bc at h1;unfold MpAt at h2;rw [e,h2] at h1;cases h1
    cases hso:sameO p o
    ·have f1:=look_oneO HMd.out p
     have f2:=ent_newO HMd.out hso
     have HM1:Hid (MpAt (putObjH w3.drew M (.map #[⟨orgV o,.int .i64 1,0⟩,⟨orgV p,.int .i64 0,1⟩] 2)) M #[⟨orgV o,.int .i64 1,0⟩,⟨orgV p,.int .i64 0,1⟩] 2):=hid HMd.out.put
     have f3:=look_twoO HM1.out hso
     have f4:=sto_twoO (x:=.int .i64 1) HM1.out
     rw [hso,if_neg (by decide)] at f1
     rw [show ((1:Nat):Int)=1 from rfl] at f2
     have HMf:Hid (MpAt (putObjH (putObjH w3.drew M (.map #[⟨orgV o,.int .i64 1,0⟩,⟨orgV p,.int .i64 0,1⟩] 2)) M (.map #[⟨orgV o,.int .i64 1,0⟩,⟨orgV p,.int .i64 1,1⟩] 2)) M #[⟨orgV o,.int .i64 1,0⟩,⟨orgV p,.int .i64 1,1⟩] 2):=hid HM1.out.put
     have HCf:Hid (Bc UT (putObjH (putObjH w3.drew M (.map #[⟨orgV o,.int .i64 1,0⟩,⟨orgV p,.int .i64 0,1⟩] 2)) M (.map #[⟨orgV o,.int .i64 1,0⟩,⟨orgV p,.int .i64 1,1⟩] 2)) SB (urlC u pu++urlC v pv)):=hid ((putO_other HSBM.out _).trans ((putO_other HSBM.out _).trans HCd.out))
     have HBf:Hid (Below w.heap.size w (putObjH (putObjH w3.drew M (.map #[⟨orgV o,.int .i64 1,0⟩,⟨orgV p,.int .i64 0,1⟩] 2)) M (.map #[⟨orgV o,.int .i64 1,0⟩,⟨orgV p,.int .i64 1,1⟩] 2))):=hid (putO_below (putO_below HBd.out HMlo.out _) HMlo.out _)
     clear HM1 HMd HCd HBd HAd HSBM HR1 HR2
     rw [hK] at f1 f2 f3 f4 HMf HCf HBf
     go_upto_region 8 with fail
     go_region
     all_goals
      clear f1 f2 f3 f4 d0 d1 d2 d3 d4 d5 d6 d7 d8 d9 d10 d11 d12
      generalize (putObjH (putObjH w3.drew M (.map #[⟨orgV o,.int .i64 1,0⟩,⟨(.agg #[.string (strOf p.1),.int .i64 p.2.1.1,.string (strOf p.2.1.2.1),.int .u32 (p.2.1.2.2.1:Int),.int .u16 (y0:Int),.int .u16 (y1:Int),.int .u16 (y2:Int),.int .u16 (y3:Int),.int .u16 (y4:Int),.int .u16 (y5:Int),.int .u16 (y6:Int),.int .u16 (y7:Int),.int .i64 p.2.2]),.int .i64 0,1⟩] 2)) M (.map #[⟨orgV o,.int .i64 1,0⟩,⟨(.agg #[.string (strOf p.1),.int .i64 p.2.1.1,.string (strOf p.2.1.2.1),.int .u32 (p.2.1.2.2.1:Int),.int .u16 (y0:Int),.int .u16 (y1:Int),.int .u16 (y2:Int),.int .u16 (y3:Int),.int .u16 (y4:Int),.int .u16 (y5:Int),.int .u16 (y6:Int),.int .u16 (y7:Int),.int .i64 p.2.2]),.int .i64 1,1⟩] 2))=wf at *
      go_wp2_with fail
      go_roundw
      case rel=>exact ⟨HCf.out,HBf.out,Or.inr (Or.inr ⟨by first | rfl | trivial,by first | rfl | trivial,by first | rfl | trivial,_,_,HMf.out,by rw [hso];rfl⟩)⟩
      case measure=>simp [intOf]
    ·have hpo:=(sameO_iff K2.out K1.out).1 hso
     subst hpo
     have f1:=look_oneO HMd.out p
     have f2:=ent_oldO HMd.out
     have HM1:Hid (MpAt (putObjH w3.drew M (.map #[⟨orgV p,.int .i64 1,0⟩] 1)) M #[⟨orgV p,.int .i64 1,0⟩] 1):=hid HMd.out.put
     have f3:=look_oneO HM1.out p
     have f4:=sto_oneO (x:=.int .i64 2) HM1.out
     rw [sameO_self,if_pos rfl] at f1 f3
     rw [show ((0:Nat):Int)=0 from rfl] at f2 f4
     have HMf:Hid (MpAt (putObjH (putObjH w3.drew M (.map #[⟨orgV p,.int .i64 1,0⟩] 1)) M (.map #[⟨orgV p,.int .i64 2,0⟩] 1)) M #[⟨orgV p,.int .i64 2,0⟩] 1):=hid HM1.out.put
     have HCf:Hid (Bc UT (putObjH (putObjH w3.drew M (.map #[⟨orgV p,.int .i64 1,0⟩] 1)) M (.map #[⟨orgV p,.int .i64 2,0⟩] 1)) SB (urlC u pu++urlC v pv)):=hid ((putO_other HSBM.out _).trans ((putO_other HSBM.out _).trans HCd.out))
     have HBf:Hid (Below w.heap.size w (putObjH (putObjH w3.drew M (.map #[⟨orgV p,.int .i64 1,0⟩] 1)) M (.map #[⟨orgV p,.int .i64 2,0⟩] 1))):=hid (putO_below (putO_below HBd.out HMlo.out _) HMlo.out _)
     clear HM1 HMd HCd HBd HAd HSBM HR1 HR2
     rw [hK] at f1 f2 f3 f4 HMf HCf HBf
     go_upto_region 8 with fail
     go_region
     all_goals
      clear f1 f2 f3 f4 d0 d1 d2 d3 d4 d5 d6 d7 d8 d9 d10 d11 d12
      generalize (putObjH (putObjH w3.drew M (.map #[⟨(.agg #[.string (strOf p.1),.int .i64 p.2.1.1,.string (strOf p.2.1.2.1),.int .u32 (p.2.1.2.2.1:Int),.int .u16 (y0:Int),.int .u16 (y1:Int),.int .u16 (y2:Int),.int .u16 (y3:Int),.int .u16 (y4:Int),.int .u16 (y5:Int),.int .u16 (y6:Int),.int .u16 (y7:Int),.int .i64 p.2.2]),.int .i64 1,0⟩] 1)) M (.map #[⟨(.agg #[.string (strOf p.1),.int .i64 p.2.1.1,.string (strOf p.2.1.2.1),.int .u32 (p.2.1.2.2.1:Int),.int .u16 (y0:Int),.int .u16 (y1:Int),.int .u16 (y2:Int),.int .u16 (y3:Int),.int .u16 (y4:Int),.int .u16 (y5:Int),.int .u16 (y6:Int),.int .u16 (y7:Int),.int .i64 p.2.2]),.int .i64 2,0⟩] 1))=wf at *
      go_wp2_with fail
      go_roundw
      case rel=>exact ⟨HCf.out,HBf.out,Or.inr (Or.inr ⟨by first | rfl | trivial,by first | rfl | trivial,by first | rfl | trivial,_,_,HMf.out,by rw [sameO_self];rfl⟩)⟩
      case measure=>simp [intOf]
  ·subst hok hpk
   have HX:Hid ((if sameO p o=true then (1:Nat) else 2)=es.size):=hid hes.symm
   clear hes HR1 HR2
   have hln:=run_len_map (P:=Tryz.prog) (w:=wr) 45 3 M es c (by kernel_rfl) hm
   clear hm
   by_cases hs2:sameO p o=true
   ·have HX2:=HX.out
    rw [hs2,if_pos rfl] at HX2
    rw [← HX2] at hln
    have HY:Hid (sameO p o=true):=hs2
    clear hs2 HX HX2
    go_wp2_with fail
    go_ret
    exact ⟨by rw [HY.out];rfl,HBw.out⟩
   ·have HX2:=HX.out
    rw [if_neg hs2] at HX2
    rw [← HX2] at hln
    have HY:Hid (sameO p o=false):=Bool.eq_false_iff.2 hs2
    clear hs2 HX HX2
    go_wp2_with fail
    go_ret
    exact ⟨by rw [HY.out];rfl,HBw.out⟩
end Go.Proofs.YtigfgloenjoeoaaGreatDoor
