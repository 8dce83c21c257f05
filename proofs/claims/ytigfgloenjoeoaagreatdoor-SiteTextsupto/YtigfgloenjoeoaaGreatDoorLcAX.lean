import Derived.Test.YtigfgloenjoeoaaGreatDoorLcAI
import Derived.Test.YtigfgloenjoeoaaGreatDoorLcAC
import Derived.Test.YtigfgloenjoeoaaGreatDoorLcAS
set_option linter.unusedVariables false
set_option linter.unusedSimpArgs false
set_option maxRecDepth 20000
set_option maxHeartbeats 16000000
namespace Go.Proofs.YtigfgloenjoeoaaGreatDoor
open Go.RowKit
def asciiB (l:List Int):Bool:=l.all fun c=>decide (0≤c∧c≤127)
def markB (b:List UInt8):Bool:=b.take 4==[120,110,45,45]
def textB (l:List Int):ByteArray:=strOf (textL l)
def backOk (t:ByteArray):Bool :=
 (decR t).2==0&&!asciiB (ints (decR t).1)&&!markB (textL (ints (decR t).1))&&(ints (decR t).1).all (fun c=>kindR c==1)&&(encR (ints (decR t).1)).2==0&&bytesOf (encR (ints (decR t).1)).1==bytesOf t
def labR (l:List Int):ByteArray×Int :=
 if asciiB l=false then
  if markB (textL l)=true then (strOf [],4)
  else if (encR l).2=0 then (strOf ([120,110,45,45]++bytesOf (encR l).1),0) else (strOf [],(encR l).2)
 else if markB (textL l)=false then (textB l,0)
 else if backOk (strOf ((textL l).drop 4))=true then (textB l,0) else (strOf [],4)
theorem ascii_snoc (l:List Int) (k:Nat) (h:k < l.length):asciiB (l.take (k+1))=(asciiB (l.take k)&&decide (0≤l[k]∧l[k]≤127)):=by
 unfold asciiB
 rw [List.take_succ_eq_append_getElem h,List.all_append]
 simp
theorem ascii_not (l:List Int) (k:Nat) (h:k < l.length) (hn:¬(0≤l[k]∧l[k]≤127)):asciiB l=false:=by
 unfold asciiB
 rw [List.all_eq_false]
 exact ⟨l[k],List.getElem_mem h,by simpa using hn⟩
theorem text_len (l:List Int):(textL l).length≤4 * l.length:=by
 unfold textL encL
 rw [List.length_flatMap]
 have h:∀(m:List Int),(m.map fun c=>(encN c.toNat).length).sum≤4 * m.length:=by
  intro m
  induction m with
  | nil=>simp
  | cons c m ih =>
    have:(encN c.toNat).length≤4:=by unfold encN;split;simp;split;simp;split;simp;simp
    simp only [List.map_cons,List.sum_cons,List.length_cons];omega
 have:=h (l.map fix)
 simpa using this
abbrev fs (x:ByteArray):Value:=.string x
abbrev SRow (w:World) (v:Value) (l:List ByteArray):Prop:=Row fs w v l
abbrev SOwn (w:World) (base:Nat) (v:Value) (l:List ByteArray):Prop:=Own fs 9 w base v l
theorem info_str:(Tryz.prog.info? 9).map (fun i=>(i.zero,i.size,i.bytes))=some (some (.string ⟨#[]⟩),1,16):=by kernel_rfl
theorem appendS_run {w:World} {base:Nat} {v:Value} {xs:List ByteArray} (hown:SOwn w base v xs) {x:Value} {l:List ByteArray} (hx:SRow w x l) (hlen:xs.length+l.length≤1000000) (hbase:base≤w.heap.size) :
 ∃v' w',(Builtin.append_ #[27,27] 27 #[v,x]).run Tryz.prog w=.ok v' w'∧SOwn w' base v' (xs++l)∧w.grownBy w' v.ownBlock :=
 append_gen (fun _=>rfl) Tryz.underlying27 info_str rfl (by decide) hown hx hlen hbase
def goS (c:UInt8):List UInt8→List UInt8→List (List UInt8)
 | cur,[]=>[cur]
 | cur,x::r=>if x=c then cur::goS c [] r else goS c (cur++[x]) r
theorem pieceB_snoc {m:List UInt8} {f i:Nat} (hf:f≤i) (hi:i < m.length):(m.drop f).take (i-f)++[m[i]]=(m.drop f).take (i+1-f):=by
 rw [show i+1-f=(i-f)+1 by omega]
 rw [List.take_succ_eq_append_getElem (by rw [List.length_drop];omega),List.getElem_drop]
 congr 2
 simp only [show f+(i-f)=i by omega]
def SplitAt (c:UInt8) (b:List UInt8) (R zs:List ByteArray) (f i:Nat):Prop :=
 zs.length≤i∧((f≤i∧i≤b.length∧R=zs++(goS c ((b.drop f).take (i-f)) (b.drop i)).map strOf)∨(i=b.length+1∧R=zs))
theorem SplitAt.skip {c:UInt8} {b:List UInt8} {R zs:List ByteArray} {f i:Nat} (h:SplitAt c b R zs f i) (hi:i < b.length) (hc:b[i]≠c):SplitAt c b R zs f (i+1):=by
 obtain ⟨hs,⟨hf,_,hr⟩ | ⟨h,_⟩⟩:=h
 ·refine ⟨by omega,.inl ⟨by omega,hi,?_⟩⟩
  rw [hr,drop_atPu hi]
  show zs++List.map strOf (if b[i]=c then _ else _)=_
  rw [if_neg hc,pieceB_snoc hf hi]
 ·omega
end Go.Proofs.YtigfgloenjoeoaaGreatDoor
