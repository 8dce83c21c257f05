import Derived.Test.YtigfgloenjoeoaaGreatDoorLcAD
import Derived.Test.YtigfgloenjoeoaaGreatDoorLcAA
import Derived.Deep.RegionHeld3
import Derived.Deep.DrawnRows
import Derived.Deep.DeepMust
import Derived.Deep.AppendLies
set_option linter.unusedVariables false
set_option linter.unusedSimpArgs false
set_option maxRecDepth 20000
set_option maxHeartbeats 16000000
namespace Go.Proofs.YtigfgloenjoeoaaGreatDoor
open Go.RowKit
attribute [local go_sem ↓] Go.wp_at_zero Go.wp_at_succ
def GoAt (last:Bool) (ps:List (List UInt8)) (k:Nat) (ns:List Nat):Prop:=goP last ps=(goP last (ps.drop k)).map (ns++·)
theorem GoAt.done {last:Bool} {ps:List (List UInt8)} {k:Nat} {ns:List Nat} (h:GoAt last ps k ns) (hk:¬k < ps.length):goP last ps=some ns:=by
 rw [h,List.drop_of_length_le (by omega)]
 simp [goP]
def OctAt (qs:List (List UInt8)) (j:Nat) (vs:List Nat):Prop:=vs.length=j∧(∀x∈vs,x≤255)∧octsR qs=(octsR (qs.drop j)).map (vs++·)
theorem OctAt.start (qs:List (List UInt8)):OctAt qs 0 []:=⟨rfl,fun x hx=>(by cases hx),by simp⟩
theorem octs_at {qs:List (List UInt8)} {j:Nat} (h:j < qs.length):octsR (qs.drop j)=match octR qs[j] with
 | none=>none
 | some n=>(octsR (qs.drop (j+1))).map (n::·):=by
 rw [List.drop_eq_getElem_cons h]
 rfl
theorem OctAt.none {qs:List (List UInt8)} {j:Nat} {vs:List Nat} (h:OctAt qs j vs) (hj:j < qs.length) (hn:octR qs[j]=none):octsR qs=none:=by
 rw [h.2.2,octs_at hj,hn]
 rfl
theorem OctAt.step {qs:List (List UInt8)} {j n:Nat} {vs:List Nat} (h:OctAt qs j vs) (hj:j < qs.length) (hn:octR qs[j]=some n):OctAt qs (j+1) (vs++[n]):=by
 refine ⟨by rw [List.length_append,h.1];rfl,fun x hx=>?_,?_⟩
 ·rcases List.mem_append.1 hx with hx | hx
  ·exact h.2.1 x hx
  ·rw [List.mem_singleton.1 hx];exact oct_lt hn
 ·rw [h.2.2,octs_at hj,hn]
  simp only [Option.map_map]
  congr 1
  funext x
  simp
theorem OctAt.done {qs:List (List UInt8)} {j:Nat} {vs:List Nat} (h:OctAt qs j vs) (hj:¬j < qs.length):octsR qs=some vs:=by
 rw [h.2.2,List.drop_of_length_le (by omega)]
 simp [octsR]
theorem oct_bad {q:List UInt8} (h:q=[]∨3 < q.length∨digsR 10 q=false∨(1 < q.length∧q.head? = some 48)):octR q=none:=by unfold octR;rw [if_pos h]
theorem oct_great {q:List UInt8} {n:Nat} (hn:(numR q).getD 0=n) (h:255 < n):octR q=none:=by
 unfold octR
 split
 ·rfl
 ·rw [hn,if_pos h]
theorem oct_good {q:List UInt8} {n:Nat} (h:¬(q=[]∨3 < q.length∨digsR 10 q=false∨(1 < q.length∧q.head? = some 48))) (hn:(numR q).getD 0=n) (h2:¬255 < n):octR q=some n:=by unfold octR;rw [if_neg h,hn,if_neg h2]
theorem four_bad {p:List UInt8} (h:(splitR 46 p).length≠4):fourR p=none:=by unfold fourR;rw [if_neg h]
theorem four_none {p:List UInt8} (h:octsR (splitR 46 p)=none):fourR p=none:=by
 unfold fourR
 split
 ·rw [h];rfl
 ·rfl
theorem four_some {p:List UInt8} {a b c d:Nat} (h4:(splitR 46 p).length=4) (h:octsR (splitR 46 p)=some [a,b,c,d]):fourR p=some [a * 256+b,c * 256+d]:=by unfold fourR;rw [if_pos h4,h];rfl
end Go.Proofs.YtigfgloenjoeoaaGreatDoor
