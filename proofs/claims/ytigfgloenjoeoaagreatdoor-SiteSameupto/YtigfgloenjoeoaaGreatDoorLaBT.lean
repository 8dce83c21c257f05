import Derived.Test.YtigfgloenjoeoaaGreatDoorLaBR
import Derived.Test.YtigfgloenjoeoaaGreatDoorLaBS
set_option linter.unusedVariables false
set_option linter.unusedSimpArgs false
set_option maxRecDepth 20000
set_option maxHeartbeats 16000000
namespace Go.Proofs.YtigfgloenjoeoaaGreatDoor
open Go.RowKit Go.Shelf
def x0 (b:UrlN) (has:Bool):RdP:=⟨⟨[],0,url0,b,has,[],false,false,false⟩,[],[]⟩
def x1 (l:List UInt8) (b:UrlN) (has:Bool):RdP:=⟨maR l b has,[],[]⟩
theorem run_begin (l:List UInt8) (b:UrlN) (has:Bool) (h:l.length≤4000):RunI (x1 l b has) (maR l b has) 0 (stripRU l) b (urlR l b has):=by
 refine ⟨by decide,?_,?_,⟨Nat.zero_le _,fun _=>rfl⟩,fun _=>Nat.zero_le _,?_,rfl,rfl⟩
 ·unfold Sim;rw [if_pos (by decide)]
  refine ⟨rfl,rfl,rfl,?_,fun _=>rfl⟩
  exact ⟨[],rfl⟩
 ·exact ⟨Nat.zero_le _,fun _=>Nat.zero_le _,fun h=>absurd h (by decide)⟩
 ·unfold urlR;rw [if_neg (by omega)]
  unfold ans
  refine congrArg (fun n=>runF n (maR l b has) 0) ?_
  show (17-0) * ((stripRU l).length+1)+((stripRU l).length-0)+1=18 * ((stripRU l).length+1)
  omega
theorem strip_len (l:List UInt8):(stripRU l).length≤l.length:=by
 unfold stripRU
 refine Nat.le_trans (List.length_filter_le _ _) ?_
 rw [List.length_reverse]
 refine Nat.le_trans (List.dropWhile_sublist _).length_le ?_
 rw [List.length_reverse]
 exact Nat.le_trans (List.dropWhile_sublist _).length_le (lossy_all _ l (Nat.le_refl _)).2
theorem strip_pos (l:List UInt8):∀c∈stripRU l,0≤c:=by
 intro c hc
 unfold stripRU at hc
 have h1:=(List.mem_filter.1 hc).1
 have h2:=(List.dropWhile_sublist _).mem (List.mem_reverse.1 h1)
 have h3:=(List.dropWhile_sublist _).mem (List.mem_reverse.1 h2)
 have:=List.all_eq_true.1 (lossy_all _ l (Nat.le_refl _)).1 c h3
 have h4:=this
 unfold isS at h4
 simp only [Bool.and_eq_true,Bool.or_eq_true,decide_eq_true_eq] at h4
 omega
theorem rd_begin {w w':World} {B G:Nat} {b:UrlN} {has:Bool} {bpv v:Value} {l:List UInt8} (T:TB B w') (hG:B≤G) (hc:Bc RT w' G (rdC (x0 b has) (.slice none 0 0) bpv (.slice none 0 0) (.slice none 0 0) (.slice none 0 0) (.slice none 0 0))) (hp:PathO w' B bpv b.path) (ht:TRow fi 3 w' v (stripRU l)) :
 Rd (0≤5) ((w'.setCell ⟨G,0,none⟩ v).setCell ⟨G,41,none⟩ (.int .i64 (-1))) B G (x1 l b has) v bpv (.slice none 0 0) (.slice none 0 0) (.slice none 0 0) (.slice none 0 0):=by
 have h0:Rws (0≤5) w' B (x1 l b has) v bpv (.slice none 0 0) (.slice none 0 0) (.slice none 0 0) (.slice none 0 0) :=
  ⟨ht,Own.nil _ _ _ _,Own.nil _ _ _ _,Own.nil _ _ _ _,Own.nil _ _ _ _,(ap_nil v).symm,(ap_nil v).symm,(ap_nil v).symm,ap_nil _,ap_nil _,ap_nil _,fun _=>⟨rfl,hp⟩⟩
 have c1:=hc.set 0 v
 refine ⟨hG,c1.set 41 _,(h0.set hc 0 v).set c1 41 _,(T.below (setB w' hG 0 v)).below (setB _ hG 41 _)⟩
def ReadU (B:Nat) (A:UrlN×Nat) (w:World) (e:Ending) (w':World):Prop :=
 (∃upv,e=.returned (.tuple #[.agg (urlC A.1 upv).toArray,.int .i64 (A.2:Int)])∧PathO w' B upv A.1.path)∧Below B w w'
structure Beg (w w2:World) (r0:Array Value) (G R:Nat):Prop where
 g:G=w.heap.size
 r:R=w.heap.size+1
 gc:w2.heap[G]? = some (.cells r0 RT)
 rc:Bc UT w2 R (urlC url0 (.slice none 0 0))
 bel:Below w.heap.size w w2
theorem beg (w:World) (r0:Array Value):Beg w ((w.alloc (.cells r0 RT)).alloc (.cells #[.string ⟨#[]⟩,.string ⟨#[]⟩,.string ⟨#[]⟩,.bool false,.int .i64 0,.string ⟨#[]⟩,.int .u32 0,.int .u16 0,.int .u16 0,.int .u16 0,.int .u16 0,.int .u16 0,.int .u16 0,.int .u16 0,.int .u16 0,.int .i64 0,.bool false,.string ⟨#[]⟩,.slice none 0 0,.bool false,.string ⟨#[]⟩,.bool false,.string ⟨#[]⟩] UT)) r0 w.heap.size (w.heap.size+1) :=
 have e1:(w.alloc (.cells r0 RT)).heap.size=w.heap.size+1:=by simp
 have h1:∀o,Below (w.heap.size+1) (w.alloc (.cells r0 RT)) ((w.alloc (.cells r0 RT)).alloc o):=fun o=>(Below.refl _ _).alloc (Nat.le_of_eq e1.symm) o
 ⟨rfl,rfl,((h1 _).block _ (Nat.lt_succ_self _)).trans (heap_alloc_new w _),by
  have:=heap_alloc_new (w.alloc (.cells r0 RT)) (.cells (urlC url0 (.slice none 0 0)).toArray UT)
  rw [e1] at this;exact this,
  ((Below.refl _ _).alloc (Nat.le_refl _) _).trans ((h1 _).mono (Nat.le_succ _))⟩
theorem url_sets {w2:World} {R:Nat}:∀(l:List (Nat×Value)) (w2:World) (xs:List Value),Bc UT w2 R xs→Bc UT (sets R l w2) R (l.foldl (fun xs p=>xs.set p.1 p.2) xs)
 | [],_,_,h=>h
 | p::l,w2,xs,h=>url_sets (w2:=w2) l _ _ (h.set p.1 p.2)
theorem url_below {B R:Nat} (hB:B≤R):∀(l:List (Nat×Value)) (w2:World),Below B w2 (sets R l w2)
 | [],w2=>Below.refl _ _
 | p::l,w2=>(setB w2 hB p.1 p.2).trans (url_below hB l _)
theorem url_store {w2:World} {B R:Nat} {u v:UrlN} {pu pv:Value} (h:Bc UT w2 R (urlC u pu)) (hB:B≤R):Bc UT (w2.setCells R 0 (urlC v pv)) R (urlC v pv)∧Below B w2 (w2.setCells R 0 (urlC v pv)):=by
 rw [setCells_sets]
 refine ⟨?_,url_below hB _ _⟩
 have:=url_sets (w2:=w2) (((urlC v pv).zipIdx 0).map fun p=>(p.2,p.1)) w2 _ h
 rw [foldl_zip _ _ _ (by show 0+23≤23;decide)] at this
 exact this
theorem url_there {w2:World} {R:Nat} {u:UrlN} {pv:Value} (h:Bc UT w2 R (urlC u pv)):w2.there R 0 23:=fun j hj=>by
 obtain ⟨v,hv⟩:∃v,(urlC u pv)[j]? = some v:=⟨_,List.getElem?_eq_getElem (by show j < 23;exact hj)⟩
 have:=h.cell j hv
 rw [Nat.zero_add]
 exact ⟨by rw [this.1];rfl,this.2⟩
end Go.Proofs.YtigfgloenjoeoaaGreatDoor
