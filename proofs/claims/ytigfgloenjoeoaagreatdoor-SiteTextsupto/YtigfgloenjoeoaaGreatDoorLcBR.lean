import Derived.Test.YtigfgloenjoeoaaGreatDoorLcAY
import Derived.Test.YtigfgloenjoeoaaGreatDoorLcBQ
import Derived.Maps.AppendAt
import Derived.Test.YtigfgloenjoeoaaGreatDoorLcAZ
import Derived.Deep.RegionWith
import Derived.Test.YtigfgloenjoeoaaGreatDoorLcAC
set_option linter.unusedVariables false
set_option linter.unusedSimpArgs false
set_option maxRecDepth 20000
set_option maxHeartbeats 16000000
namespace Go.Proofs.YtigfgloenjoeoaaGreatDoor
open Go.RowKit
abbrev u16v (l:List Nat) (i:Nat):Value:=.int .u16 ((l.getD i 0:Nat):Int)
def urlC (u:UrlN) (pv:Value):List Value :=
 [.string (strOf u.sch),.string (strOf u.usr),.string (strOf u.pas),.bool u.hasHost,.int .i64 u.host.1,.string (strOf u.host.2.1),.int .u32 (u.host.2.2.1:Int),u16v u.host.2.2.2 0,u16v u.host.2.2.2 1,u16v u.host.2.2.2 2,u16v u.host.2.2.2 3,u16v u.host.2.2.2 4,u16v u.host.2.2.2 5,u16v u.host.2.2.2 6,u16v u.host.2.2.2 7,
  .int .i64 u.port,.bool u.dark,.string (strOf u.txt),pv,.bool u.hasQ,.string (strOf u.qry),.bool u.hasF,.string (strOf u.frg)]
def rdC (x:RdP) (tv bpv upv bv uv pv:Value):List Value :=
 [tv,.int .i64 (x.m.p:Int),
  .string (strOf x.m.base.sch),.string (strOf x.m.base.usr),.string (strOf x.m.base.pas),.bool x.m.base.hasHost,.int .i64 x.m.base.host.1,.string (strOf x.m.base.host.2.1),.int .u32 (x.m.base.host.2.2.1:Int),u16v x.m.base.host.2.2.2 0,u16v x.m.base.host.2.2.2 1,u16v x.m.base.host.2.2.2 2,u16v x.m.base.host.2.2.2 3,u16v x.m.base.host.2.2.2 4,u16v x.m.base.host.2.2.2 5,u16v x.m.base.host.2.2.2 6,u16v x.m.base.host.2.2.2 7,
  .int .i64 x.m.base.port,.bool x.m.base.dark,.string (strOf x.m.base.txt),bpv,.bool x.m.base.hasQ,.string (strOf x.m.base.qry),.bool x.m.base.hasF,.string (strOf x.m.base.frg),
  .bool x.m.has,
  .string (strOf x.m.u.sch),.string (strOf x.m.u.usr),.string (strOf x.m.u.pas),.bool x.m.u.hasHost,.int .i64 x.m.u.host.1,.string (strOf x.m.u.host.2.1),.int .u32 (x.m.u.host.2.2.1:Int),u16v x.m.u.host.2.2.2 0,u16v x.m.u.host.2.2.2 1,u16v x.m.u.host.2.2.2 2,u16v x.m.u.host.2.2.2 3,u16v x.m.u.host.2.2.2 4,u16v x.m.u.host.2.2.2 5,u16v x.m.u.host.2.2.2 6,u16v x.m.u.host.2.2.2 7,
  .int .i64 x.m.u.port,.bool x.m.u.dark,.string (strOf x.m.u.txt),upv,.bool x.m.u.hasQ,.string (strOf x.m.u.qry),.bool x.m.u.hasF,.string (strOf x.m.u.frg),
  bv,uv,pv,.bool x.m.seen,.bool x.m.colon,.bool x.m.brack]
def Bc (t:TypeId) (w:World) (g:Nat) (xs:List Value):Prop:=w.heap[g]? = some (.cells xs.toArray t)
theorem Bc.lt {t:TypeId} {w:World} {g:Nat} {xs:List Value} (h:Bc t w g xs):g < w.heap.size:=by
 rcases Nat.lt_or_ge g w.heap.size with h' | h'
 ·exact h'
 ·unfold Bc at h
  rw [Array.getElem?_eq_none h'] at h
  cases h
theorem Bc.cell {t:TypeId} {w:World} {g:Nat} {xs:List Value} (h:Bc t w g xs) (i:Nat) {v:Value} (hi:xs[i]? = some v):w.cell? ⟨g,i,none⟩=some v∧w.frozen? ⟨g,i,none⟩=false:=by
 unfold Bc at h
 constructor
 ·simp [World.cell?,h,hi]
 ·simp [World.frozen?,h]
theorem Bc.below {t:TypeId} {w w':World} {g:Nat} {xs:List Value} (h:Bc t w g xs) (hb:Below w.heap.size w w'):Bc t w' g xs:=by
 have:=hb.block g h.lt
 unfold Bc at h ⊢
 rw [this,h]
theorem Bc.set {t:TypeId} {w:World} {g:Nat} {xs:List Value} (h:Bc t w g xs) (i:Nat) (v:Value):Bc t (w.setCell ⟨g,i,none⟩ v) g (xs.set i v):=by
 unfold Bc at h ⊢
 rw [heap_setCell_same w g i _ _ _ h]
 simp
theorem Bc.kept {t:TypeId} {w w':World} {g:Nat} {xs:List Value} (h:Bc t w g xs) (he:w'.heap[g]? = w.heap[g]?):Bc t w' g xs:=by unfold Bc at h ⊢;rw [he,h]
def Ap (a b:Value):Prop:=a.ownBlock=none∨a.ownBlock≠b.ownBlock
theorem Ap.symm {a b:Value} (h:Ap a b):Ap b a:=by
 unfold Ap at *
 cases hb:b.ownBlock with
 | none=>exact Or.inl rfl
 | some k=>rcases h with h | h;exact Or.inr (by rw [h];simp);exact Or.inr (fun e=>h (by rw [← e,hb]))
theorem ap_nil (b:Value):Ap (.slice none 0 0) b:=Or.inl rfl
def TRow {α:Type} (f:α→Value) (t:TypeId) (w:World) (v:Value) (l:List α):Prop:=Row f w v l∧∀k,v.ownBlock=some k→∃cs fr,w.heap[k]? = some (.cells cs t fr)
theorem row_kept {α:Type} {f:α→Value} {w w':World} {v:Value} {l:List α} (h:Row f w v l) (hs:w.heap.size≤w'.heap.size) (hk:∀k,v.ownBlock=some k→w'.heap[k]? = w.heap[k]?):Row f w' v l:=by
 obtain ⟨a,cap,rfl,h1,h2,h3⟩:=h
 refine ⟨a,cap,rfl,h1,h2,fun hl=>?_⟩
 obtain ⟨b,off,rfl,hlt,hc⟩:=h3 hl
 refine ⟨b,off,rfl,by omega,fun i hi=>?_⟩
 rw [World.cell?_of_block (a:=⟨b,off+i,none⟩) (hk b rfl)]
 exact hc i hi
theorem trow_kept {α:Type} {f:α→Value} {t:TypeId} {w w':World} {v:Value} {l:List α} (h:TRow f t w v l) (hs:w.heap.size≤w'.heap.size) (hk:∀k,v.ownBlock=some k→w'.heap[k]? = w.heap[k]?):TRow f t w' v l :=
 ⟨row_kept h.1 hs hk,fun k he=>by rw [hk k he];exact h.2 k he⟩
theorem own_kept {α:Type} {f:α→Value} {t:TypeId} {w w':World} {B:Nat} {v:Value} {l:List α} (h:Own f t w B v l) (hk:∀k,v.ownBlock=some k→w'.heap[k]? = w.heap[k]?):Own f t w' B v l:=by
 refine ⟨h.1,?_⟩
 rcases h.2 with h' | ⟨g,cap,cur,rfl,hbg,hg,hr⟩
 ·exact .inl h'
 ·exact .inr ⟨g,cap,cur,rfl,hbg,by rw [hk g rfl];exact hg,hr⟩
theorem own_typ {α:Type} {f:α→Value} {t:TypeId} {w:World} {B:Nat} {v:Value} {l:List α} (h:Own f t w B v l):∀k,v.ownBlock=some k→B≤k∧∃cs fr,w.heap[k]? = some (.cells cs t fr):=by
 rcases h.2 with ⟨rfl,_⟩ | ⟨g,cap,cur,rfl,hbg,hg,hr⟩
 ·intro k hk;cases hk
 ·intro k hk;cases hk;exact ⟨hbg,_,_,hg⟩
theorem heap_lt {w:World} {k:Nat} {o:Obj} (h:w.heap[k]? = some o):k < w.heap.size:=by
 rcases Nat.lt_or_ge k w.heap.size with h' | h'
 ·exact h'
 ·rw [Array.getElem?_eq_none h'] at h;cases h
theorem typ_ne {w:World} {k g:Nat} {cs cs':Array Value} {t t':TypeId} {fr fr':Nat×Nat} (h:w.heap[k]? = some (.cells cs t fr)) (h':w.heap[g]? = some (.cells cs' t' fr')) (hne:t≠t'):k≠g:=by
 rintro rfl
 rw [h] at h'
 injection h' with e
 injection e with e1 e2 e3
 exact hne e2
theorem own_trow {α:Type} {f:α→Value} {t:TypeId} {w:World} {B:Nat} {v:Value} {l:List α} (h:Own f t w B v l):TRow f t w v l:=⟨h.row,fun k hk=>(own_typ h k hk).2⟩
abbrev RT:TypeId:=65
abbrev PathO (w:World) (B:Nat) (v:Value) (l:List (List UInt8)):Prop:=SOwnIp w B v l
structure Rws (E:Prop) (w:World) (B:Nat) (x:RdP) (tv bpv upv bv uv pv:Value):Prop where
 t:TRow fi 3 w tv x.m.inp
 b:IOwn w B bv x.m.buf
 u:IOwn w B uv x.us
 p:IOwn w B pv x.ps
 q:PathO w B upv x.m.u.path
 tb:Ap tv bv
 tu:Ap tv uv
 tp:Ap tv pv
 bu:Ap bv uv
 bp:Ap bv pv
 up:Ap uv pv
 e:E→upv=.slice none 0 0∧PathO w B bpv x.m.base.path
def TB (B:Nat) (w:World):Prop:=∀w',Below B w w'→TabR w'
theorem TB.below {B:Nat} {w w':World} (h:TB B w) (hb:Below B w w'):TB B w':=fun v hv=>h v (hb.trans hv)
theorem TB.now {B:Nat} {w:World} (h:TB B w):TabR w:=h w (Below.refl _ _)
theorem TB.new {w:World} (h:TabR w):TB w.heap.size w:=fun v hv=>h.below hv
structure Rd (E:Prop) (w:World) (B g:Nat) (x:RdP) (tv bpv upv bv uv pv:Value):Prop where
 bg:B≤g
 c:Bc RT w g (rdC x tv bpv upv bv uv pv)
 r:Rws E w B x tv bpv upv bv uv pv
 tab:TB B w
section
variable {E:Prop} {w w':World} {B g:Nat} {x x':RdP} {tv bpv upv bv uv pv:Value}
theorem below_eq (hb:Below w.heap.size w w') {k:Nat} {o:Obj} (h:w.heap[k]? = some o):w'.heap[k]? = w.heap[k]? := hb.block k (heap_lt h)
theorem Rws.kept (h:Rws E w B x tv bpv upv bv uv pv) (hs:w.heap.size≤w'.heap.size) (hk:∀(k:Nat) (cs:Array Value) (t:TypeId) (fr:Nat×Nat),w.heap[k]? = some (Obj.cells cs t fr)→t≠RT→w'.heap[k]? = w.heap[k]?):Rws E w' B x tv bpv upv bv uv pv:=by
 have ki:∀{v:Value} {l:List Int},TRow fi 3 w v l→∀k,v.ownBlock=some k→w'.heap[k]? = w.heap[k]? := fun h k e=>by obtain ⟨cs,fr,hh⟩:=h.2 k e;exact hk k cs _ fr hh (by decide)
 have ks:∀{v:Value} {l:List (List UInt8)},PathO w B v l→∀k,v.ownBlock=some k→w'.heap[k]? = w.heap[k]? := fun h k e=>by obtain ⟨cs,fr,hh⟩:=(own_trow h).2 k e;exact hk k cs _ fr hh (by decide)
 exact ⟨trow_kept h.t hs (ki h.t),own_kept h.b (ki (own_trow h.b)),own_kept h.u (ki (own_trow h.u)),own_kept h.p (ki (own_trow h.p)),own_kept h.q (ks h.q),h.tb,h.tu,h.tp,h.bu,h.bp,h.up,fun e=>⟨(h.e e).1,own_kept (h.e e).2 (ks (h.e e).2)⟩⟩
theorem Rws.below (h:Rws E w B x tv bpv upv bv uv pv) (hb:Below w.heap.size w w'):Rws E w' B x tv bpv upv bv uv pv:=h.kept hb.size (fun k cs t fr hh _=>below_eq hb hh)
theorem Rd.below (h:Rd E w B g x tv bpv upv bv uv pv) (hb:Below w.heap.size w w'):Rd E w' B g x tv bpv upv bv uv pv:=⟨h.bg,h.c.below hb,h.r.below hb,h.tab.below (hb.mono (by have:=h.c.lt;have:=h.bg;omega))⟩
theorem Rd.at (h:Rd E w B g x tv bpv upv bv uv pv) (i:Nat) {v:Value} (hi:(rdC x tv bpv upv bv uv pv)[i]? = some v):w.cell? ⟨g,i,none⟩=some v:=(h.c.cell i hi).1
theorem Rd.free (h:Rd E w B g x tv bpv upv bv uv pv) (i:Nat) (hi:i < 55):w.frozen? ⟨g,i,none⟩=false:=by
 have:∃v,(rdC x tv bpv upv bv uv pv)[i]? = some v:=⟨_,List.getElem?_eq_getElem (by show i < 55;exact hi)⟩
 obtain ⟨v,hv⟩:=this
 exact (h.c.cell i hv).2
theorem Rd.lt (h:Rd E w B g x tv bpv upv bv uv pv):g < w.heap.size:=h.c.lt
theorem Rd.bs (h:Rd E w B g x tv bpv upv bv uv pv):B≤w.heap.size:=by have:=h.lt;have:=h.bg;omega
theorem Rws.set (h:Rws E w B x tv bpv upv bv uv pv) {xs:List Value} (hg:Bc RT w g xs) (i:Nat) (v:Value):Rws E (w.setCell ⟨g,i,none⟩ v) B x tv bpv upv bv uv pv :=
 h.kept (by simp [World.setCell]) (fun k cs t fr hh ht=>heap_setCell_other w _ k _ (by
  intro e;have e:k=g:=e;subst e
  unfold Bc at hg;rw [hh] at hg;injection hg with e;injection e with e1 e2 e3;exact ht e2))
theorem setB {B g:Nat} (w:World) (hb:B≤g) (i:Nat) (v:Value):Below B w (w.setCell ⟨g,i,none⟩ v):=(Below.refl B w).setCell (p:=⟨g,i,none⟩) hb v
theorem Rws.mono {E':Prop} (h:Rws E w B x tv bpv upv bv uv pv) (he:E'→E):Rws E' w B x tv bpv upv bv uv pv:=⟨h.t,h.b,h.u,h.p,h.q,h.tb,h.tu,h.tp,h.bu,h.bp,h.up,fun e=>h.e (he e)⟩
theorem Rd.mono {E':Prop} (h:Rd E w B g x tv bpv upv bv uv pv) (he:E'→E):Rd E' w B g x tv bpv upv bv uv pv:=⟨h.bg,h.c,h.r.mono he,h.tab⟩
structure Grew (w w':World) (B:Nat) (v v':Value):Prop where
 size:w.heap.size≤w'.heap.size
 old:∀k,k < w.heap.size→v.ownBlock≠some k→w'.heap[k]? = w.heap[k]?
 loc:v'.ownBlock=v.ownBlock∨∃k,v'.ownBlock=some k∧w.heap.size≤k
 bel:Below B w w'
theorem Grew.ap {v v' a:Value} (h:Grew w w' B v v') (hv:Ap v a) (ha:∀k,a.ownBlock=some k→k < w.heap.size):Ap v' a:=by
 rcases h.loc with e | ⟨k,e,hk⟩
 ·unfold Ap at *;rw [e];exact hv
 ·refine Or.inr (fun e2=>?_)
  rw [e] at e2
  have:=ha k e2.symm;omega
theorem trow_lt {α:Type} {f:α→Value} {t:TypeId} {v:Value} {l:List α} (h:TRow f t w v l):∀k,v.ownBlock=some k→k < w.heap.size:=fun k e=>by obtain ⟨cs,fr,hh⟩:=h.2 k e;exact heap_lt hh
theorem own_ltU {α:Type} {f:α→Value} {t:TypeId} {v:Value} {l:List α} (h:Own f t w B v l):∀k,v.ownBlock=some k→k < w.heap.size:=trow_lt (own_trow h)
theorem Grew.far {v v' a:Value} (h:Grew w w' B v v') (hv:Ap v a) (ha:∀k,a.ownBlock=some k→k < w.heap.size):∀k,a.ownBlock=some k→w'.heap[k]? = w.heap[k]? := fun k e=>h.old k (ha k e) (fun e2=>by
 unfold Ap at hv;rcases hv with hv | hv
 ·rw [hv] at e2;cases e2
 ·exact hv (e2.trans e.symm))
theorem ap_typ {α β:Type} {f:α→Value} {f':β→Value} {t t':TypeId} {v v':Value} {l:List α} {l':List β} (h:TRow f t w v l) (h':TRow f' t' w v' l') (hne:t≠t'):Ap v v':=by
 unfold Ap
 cases e:v.ownBlock with
 | none=>exact Or.inl rfl
 | some k =>
   refine Or.inr (fun e2=>?_)
   obtain ⟨cs,fr,hh⟩:=h.2 k e
   obtain ⟨cs',fr',hh'⟩:=h'.2 k e2.symm
   exact typ_ne hh hh' hne rfl
theorem Grew.rd {v v':Value} (h:Grew w w' B v v') {xs:List Value} (hg:Bc RT w g xs) (hv:∀k,v.ownBlock=some k→∃cs t fr,w.heap[k]? = some (Obj.cells cs t fr)∧t≠RT):Bc RT w' g xs :=
 hg.kept (h.old g hg.lt (fun e=>by
  obtain ⟨cs,t,fr,hh,ht⟩:=hv g e
  unfold Bc at hg;rw [hg] at hh;injection hh with e;injection e with e1 e2 e3;exact ht e2.symm))
theorem Rws.growB {bv':Value} {l:List Int} (h:Rws E w B x tv bpv upv bv uv pv) (hg:Grew w w' B bv bv') (ho:IOwn w' B bv' l):Rws E w' B { x with m:={ x.m with buf:=l } } tv bpv upv bv' uv pv :=
 have at_:=trow_lt h.t
 have au:=own_ltU h.u
 have ap:=own_ltU h.p
 have aq:=own_ltU h.q
 ⟨trow_kept h.t hg.size (hg.far h.tb.symm at_),ho,own_kept h.u (hg.far h.bu au),own_kept h.p (hg.far h.bp ap),own_kept h.q (hg.far (ap_typ (own_trow h.b) (own_trow h.q) (by decide)) aq),(hg.ap h.tb.symm at_).symm,h.tu,h.tp,hg.ap h.bu au,hg.ap h.bp ap,h.up,fun e=>⟨(h.e e).1,own_kept (h.e e).2 (hg.far (ap_typ (own_trow h.b) (own_trow (h.e e).2) (by decide)) (own_ltU (h.e e).2))⟩⟩
theorem Rws.growU {uv':Value} {l:List Int} (h:Rws E w B x tv bpv upv bv uv pv) (hg:Grew w w' B uv uv') (ho:IOwn w' B uv' l):Rws E w' B { x with us:=l } tv bpv upv bv uv' pv :=
 have at_:=trow_lt h.t
 have ab:=own_ltU h.b
 have ap:=own_ltU h.p
 have aq:=own_ltU h.q
 ⟨trow_kept h.t hg.size (hg.far h.tu.symm at_),own_kept h.b (hg.far h.bu.symm ab),ho,own_kept h.p (hg.far h.up ap),own_kept h.q (hg.far (ap_typ (own_trow h.u) (own_trow h.q) (by decide)) aq),h.tb,(hg.ap h.tu.symm at_).symm,h.tp,(hg.ap h.bu.symm ab).symm,h.bp,hg.ap h.up ap,fun e=>⟨(h.e e).1,own_kept (h.e e).2 (hg.far (ap_typ (own_trow h.u) (own_trow (h.e e).2) (by decide)) (own_ltU (h.e e).2))⟩⟩
theorem Rws.growP {pv':Value} {l:List Int} (h:Rws E w B x tv bpv upv bv uv pv) (hg:Grew w w' B pv pv') (ho:IOwn w' B pv' l):Rws E w' B { x with ps:=l } tv bpv upv bv uv pv' :=
 have at_:=trow_lt h.t
 have ab:=own_ltU h.b
 have au:=own_ltU h.u
 have aq:=own_ltU h.q
 ⟨trow_kept h.t hg.size (hg.far h.tp.symm at_),own_kept h.b (hg.far h.bp.symm ab),own_kept h.u (hg.far h.up.symm au),ho,own_kept h.q (hg.far (ap_typ (own_trow h.p) (own_trow h.q) (by decide)) aq),h.tb,h.tu,(hg.ap h.tp.symm at_).symm,h.bu,(hg.ap h.bp.symm ab).symm,(hg.ap h.up.symm au).symm,fun e=>⟨(h.e e).1,own_kept (h.e e).2 (hg.far (ap_typ (own_trow h.p) (own_trow (h.e e).2) (by decide)) (own_ltU (h.e e).2))⟩⟩
theorem Rws.growQ {upv':Value} {l:List (List UInt8)} (h:Rws E w B x tv bpv upv bv uv pv) (hg:Grew w w' B upv upv') (ho:PathO w' B upv' l):Rws False w' B { x with m:={ x.m with u:={ x.m.u with path:=l } } } tv bpv upv' bv uv pv :=
 ⟨trow_kept h.t hg.size (hg.far (ap_typ (own_trow h.q) h.t (by decide)) (trow_lt h.t)),own_kept h.b (hg.far (ap_typ (own_trow h.q) (own_trow h.b) (by decide)) (own_ltU h.b)),own_kept h.u (hg.far (ap_typ (own_trow h.q) (own_trow h.u) (by decide)) (own_ltU h.u)),own_kept h.p (hg.far (ap_typ (own_trow h.q) (own_trow h.p) (by decide)) (own_ltU h.p)),ho,h.tb,h.tu,h.tp,h.bu,h.bp,h.up,fun e=>e.elim⟩
end
theorem push_gen {α:Type} {f:α→Value} {t ts:TypeId} {z:Value} {bytes:Nat} (hf:∀x,(f x).oneCell'=true) (hu:Tryz.prog.underlying ts=some (.slice t)) (hin:(Tryz.prog.info? t).map (fun i=>(i.zero,i.size,i.bytes))=some (some z,1,bytes)) (hz:z.cells.size=1) (hby:bytes≤16)
 {w:World} {B:Nat} {v:Value} {xs:List α} (hown:Own f t w B v xs) (c:α) (hlen:xs.length≤900000) (hB:B≤w.heap.size) :
 ∃v' w',(Builtin.append_ #[ts,ts] ts #[v,.slice (some ⟨w.heap.size,0,none⟩) 1 1]).run Tryz.prog (w.alloc (.cells #[f c] t))=.ok v' w'∧Own f t w' B v' (xs++[c])∧Grew w w' B v v':=by
 obtain ⟨i0,hi,hz0,hz1,hz2⟩:=info_parts hin
 have hrow:Row f (w.alloc (.cells #[f c] t)) (.slice (some ⟨w.heap.size,0,none⟩) 1 1) [c]:=Row.lit f w [c] t (0,0) (by simp)
 obtain ⟨_,hc⟩:=Row.cells hrow
 have hs:w.heap.size≤(w.alloc (.cells #[f c] t)).heap.size:=by simp
 obtain ⟨v',w',hr,ho,hg,_,hloc⟩:=run_append_own_at (P:=Tryz.prog) (w.alloc (.cells #[f c] t)) B ts ts t i0 z 1 bytes hu hi hz0 hz1 hz2 hz (by decide) v xs.length (xs.map f) (hown.alloc _) ⟨w.heap.size,0,none⟩ 1 1 ([c].map f) (by simp) hc
  (by intro u hu;obtain ⟨y,_,rfl⟩:=List.mem_map.1 hu;exact hf y) (by unfold maxLen;omega) (Nat.le_trans (Nat.mul_le_mul (show xs.length+1≤1000000 by omega) hby) (by decide)) (Nat.le_trans hB hs)
 refine ⟨v',w',hr,?_,⟨Nat.le_trans hs hg.size,fun k hk hne=>?_,?_,?_⟩⟩
 ·unfold Own
  rw [List.length_append,List.map_append]
  exact ho
 ·rw [hg.block k (Nat.lt_of_lt_of_le hk hs) (fun e=>hne e.symm)]
  exact Below.heap_alloc w _ k hk
 ·rcases hloc with h | h
  ·exact Or.inl h
  ·exact Or.inr ⟨_,h,hs⟩
 ·exact ((Below.refl B w).alloc hB _).grown hg (Nat.le_trans hB hs) (fun k hk=>(own_typ hown k hk).1)
theorem push_int {w:World} {B:Nat} {v:Value} {xs:List Int} (hown:IOwn w B v xs) (c:Int) (hlen:xs.length≤900000) (hB:B≤w.heap.size) :
 ∃v' w',(Builtin.append_ #[63,63] 63 #[v,.slice (some ⟨w.heap.size,0,none⟩) 1 1]).run Tryz.prog (w.alloc (.cells #[.int .i64 c] 3))=.ok v' w'∧IOwn w' B v' (xs++[c])∧Grew w w' B v v' :=
 push_gen (fun _=>rfl) Tryz.underlying63 info_i64 rfl (by decide) hown c hlen hB
theorem push_str {w:World} {B:Nat} {v:Value} {xs:List (List UInt8)} (hown:SOwnIp w B v xs) (c:List UInt8) (hlen:xs.length≤900000) (hB:B≤w.heap.size) :
 ∃v' w',(Builtin.append_ #[27,27] 27 #[v,.slice (some ⟨w.heap.size,0,none⟩) 1 1]).run Tryz.prog (w.alloc (.cells #[.string (strOf c)] 9))=.ok v' w'∧SOwnIp w' B v' (xs++[c])∧Grew w w' B v v' :=
 push_gen (fun _=>rfl) Tryz.underlying27 info_strIp rfl (by decide) hown c hlen hB
end Go.Proofs.YtigfgloenjoeoaaGreatDoor
namespace Go.Proofs.YtigfgloenjoeoaaGreatDoor
open Go.RowKit
theorem special_bools (s:ByteArray):(specialN s.data.toList:Int)=if (s.toList==[104,116,116,112])=true then 80 else if (s.toList==[119,115])=true then 80 else if (s.toList==[104,116,116,112,115])=true then 443 else if (s.toList==[119,115,115])=true then 443 else if (s.toList==[102,116,112])=true then 21 else 0:=by
 rw [ByteArray.toList_eq]
 unfold specialN
 simp only [beq_iff_eq]
 by_cases h1:s.data.toList=[104,116,116,112]
 ·simp [h1]
 by_cases h2:s.data.toList=[119,115]
 ·simp [h2]
 by_cases h3:s.data.toList=[104,116,116,112,115]
 ·simp [h3]
 by_cases h4:s.data.toList=[119,115,115]
 ·simp [h4]
 simp [h1,h2,h3,h4]
 split<;>rfl
theorem uSpecial_calls (s:ByteArray) (w:World):Calls Tryz.prog 25 #[.string s] w fun e w'=>e=.returned (.int .i64 (specialN s.data.toList:Int))∧w'=w:=by
 have HS:=hid (special_bools s)
 cases h1:s.toList==[104,116,116,112]
 ·cases h2:s.toList==[119,115]
  ·cases h3:s.toList==[104,116,116,112,115]
   ·cases h4:s.toList==[119,115,115]
    ·cases h5:s.toList==[102,116,112]
     ·rw [HS.out];simp only [h1,h2,h3,h4,h5,Bool.false_eq_true,if_false,if_true]
      clear HS
      go_enter Tryz.func25,Tryz.ntmps25
      go_wp2
      go_ret
      exact ⟨rfl,rfl⟩
     ·rw [HS.out];simp only [h1,h2,h3,h4,h5,Bool.false_eq_true,if_false,if_true]
      clear HS
      go_enter Tryz.func25,Tryz.ntmps25
      go_wp2
      go_ret
      exact ⟨rfl,rfl⟩
    ·rw [HS.out];simp only [h1,h2,h3,h4,Bool.false_eq_true,if_false,if_true]
     clear HS
     go_enter Tryz.func25,Tryz.ntmps25
     go_wp2
     go_ret
     exact ⟨rfl,rfl⟩
   ·rw [HS.out];simp only [h1,h2,h3,Bool.false_eq_true,if_false,if_true]
    clear HS
    go_enter Tryz.func25,Tryz.ntmps25
    go_wp2
    go_ret
    exact ⟨rfl,rfl⟩
  ·rw [HS.out];simp only [h1,h2,Bool.false_eq_true,if_false,if_true]
   clear HS
   go_enter Tryz.func25,Tryz.ntmps25
   go_wp2
   go_ret
   exact ⟨rfl,rfl⟩
 ·rw [HS.out];simp only [h1,Bool.false_eq_true,if_false,if_true]
  clear HS
  go_enter Tryz.func25,Tryz.ntmps25
  go_wp2
  go_ret
  exact ⟨rfl,rfl⟩
theorem usign_calls {E:Prop} {w:World} {B g:Nat} {x:RdP} {tv bpv upv bv uv pv:Value} (h:Rd E w B g x tv bpv upv bv uv pv) (k:Nat) :
 Calls Tryz.prog 69 #[.pointer (some ⟨g,0,none⟩),.int .i64 (k:Int)] w fun e w'=>e=.returned (.int .i64 (signAt x.m.inp k))∧w'=w:=by
 have c0:=h.at 0 rfl
 obtain ⟨a,cap,rfl,h1,h2,h3⟩:=h.r.t.1
 have H3:=hid h3
 clear h3
 by_cases hk:k < x.m.inp.length
 ·obtain ⟨b,off,rfl,hlt,hc⟩:=H3.out (by intro e;rw [e] at hk;simp at hk)
  have c1:=hc k hk
  have e1:signAt x.m.inp k=x.m.inp[k]:=by unfold signAt;rw [List.getElem?_eq_getElem hk];rfl
  rw [e1]
  have k1:(k:Int) < (x.m.inp.length:Int):=by omega
  have k0:(0:Int)≤(k:Int):=by omega
  have HK:=hid h
  generalize x.m.inp[k]=z at *
  clear hc h hk e1
  go_enter Tryz.func69,Tryz.ntmps69
  go_wp2_with fail
  go_ret
  exact ⟨rfl,rfl⟩
 ·have e1:signAt x.m.inp k=-1:=by unfold signAt;rw [List.getElem?_eq_none (by omega)];rfl
  rw [e1]
  have k1:¬(k:Int) < (x.m.inp.length:Int):=by omega
  have k2:(x.m.inp.length:Int)≤(k:Int):=by omega
  clear h hk e1
  go_enter Tryz.func69,Tryz.ntmps69
  go_wp2_with fail
  go_ret
  exact ⟨rfl,rfl⟩
theorem unext_calls {E:Prop} {w:World} {B g:Nat} {x:RdP} {tv bpv upv bv uv pv:Value} (h:Rd E w B g x tv bpv upv bv uv pv) (hp:x.m.p≤100000) :
 Calls Tryz.prog 133 #[.pointer (some ⟨g,0,none⟩)] w fun e w'=>e=.returned (.int .i64 (signAt x.m.inp (x.m.p+1)))∧w'=w:=by
 have c1:=h.at 1 rfl
 have HC:=hid (usign_calls h (x.m.p+1))
 have k0:(x.m.p:Int)≤100000:=by omega
 have k1:(0:Int)≤(x.m.p:Int):=by omega
 rw [show ((x.m.p+1:Nat):Int)=(x.m.p:Int)+1 from rfl] at HC
 clear h hp
 go_enter Tryz.func133,Tryz.ntmps133
 go_wp2_with (go_at_call 69;refine HC.out.mono ?_;rintro e w1 ⟨rfl,rfl⟩)
 go_ret
 exact ⟨rfl,rfl⟩
theorem uspecial_calls {E:Prop} {w:World} {B g:Nat} {x:RdP} {tv bpv upv bv uv pv:Value} (h:Rd E w B g x tv bpv upv bv uv pv) :
 Calls Tryz.prog 139 #[.pointer (some ⟨g,0,none⟩)] w fun e w'=>e=.returned (.bool (spM x.m))∧w'=w:=by
 have c1:=h.at 26 rfl
 have HC:=hid (uSpecial_calls (strOf x.m.u.sch) w)
 rw [str_data] at HC
 have HS:Hid (spM x.m=!((specialN x.m.u.sch:Int)==0)):=by
  show _=_
  unfold spM
  rcases Nat.eq_zero_or_pos (specialN x.m.u.sch) with e | e
  ·rw [e];rfl
  ·rw [decide_eq_true e,beq_eq_false_iff_ne.2 (by omega)];rfl
 rw [HS.out]
 generalize (specialN x.m.u.sch:Int)=n at *
 clear h HS
 go_enter Tryz.func139,Tryz.ntmps139
 go_wp2_with (go_at_call 25;refine HC.out.mono ?_;rintro e w1 ⟨rfl,rfl⟩)
 go_ret
 exact ⟨rfl,rfl⟩
theorem uslash_calls {E:Prop} {w:World} {B g:Nat} {x:RdP} {tv bpv upv bv uv pv:Value} (h:Rd E w B g x tv bpv upv bv uv pv) (c:Int) :
 Calls Tryz.prog 135 #[.pointer (some ⟨g,0,none⟩),.int .i64 c] w fun e w'=>e=.returned (.bool (slashM x.m c))∧w'=w:=by
 have HC:=hid (uspecial_calls h)
 unfold slashM
 generalize spM x.m=b at *
 clear h
 cases h1:c==47
 ·cases h2:c==92
  ·go_enter Tryz.func135,Tryz.ntmps135
   go_wp2_with (go_at_call 139;refine HC.out.mono ?_;rintro e w1 ⟨rfl,rfl⟩)
   go_ret
   exact ⟨by cases b<;>rfl,rfl⟩
  ·go_enter Tryz.func135,Tryz.ntmps135
   go_wp2_with (go_at_call 139;refine HC.out.mono ?_;rintro e w1 ⟨rfl,rfl⟩)
   go_ret
   exact ⟨by cases b<;>rfl,rfl⟩
 ·go_enter Tryz.func135,Tryz.ntmps135
  go_wp2_with fail
  go_ret
  exact ⟨rfl,rfl⟩
theorem uendsA_calls {E:Prop} {w:World} {B g:Nat} {x:RdP} {tv bpv upv bv uv pv:Value} (h:Rd E w B g x tv bpv upv bv uv pv) (c:Int) :
 Calls Tryz.prog 141 #[.pointer (some ⟨g,0,none⟩),.int .i64 c] w fun e w'=>e=.returned (.bool (endsA x.m c))∧w'=w:=by
 have HC:=hid (uslash_calls h c)
 have HE:=hid (fun w=>uends_calls c w)
 unfold endsA
 generalize slashM x.m c=b at *
 generalize endsB c=d at *
 clear h
 cases d
 ·go_enter Tryz.func141,Tryz.ntmps141
  go_wp2_with (first | (go_at_call 135;refine HC.out.mono ?_;rintro e w1 ⟨rfl,rfl⟩) | (go_at_call 137;refine (HE.out _).mono ?_;rintro e w1 ⟨rfl,rfl⟩))
  go_ret
  exact ⟨rfl,rfl⟩
 ·go_enter Tryz.func141,Tryz.ntmps141
  go_wp2_with (go_at_call 137;refine (HE.out _).mono ?_;rintro e w1 ⟨rfl,rfl⟩)
  go_ret
  exact ⟨rfl,rfl⟩
abbrev nilV:Value:=.slice none 0 0
def RS (E:Prop) (w:World) (B g:Nat) (x:RdP):Prop:=∃tv bpv upv bv uv pv,Rd E w B g x tv bpv upv bv uv pv
abbrev MT:TypeId:=95
abbrev zMv:Obj:=.cells #[.int .i64 0,.int .i64 0,.int .i64 0] MT
abbrev UT:TypeId:=29
abbrev KT (t:TypeId):Prop:=t=MT∨t=UT
def Keep (w w':World):Prop:=∀(k:Nat) (cs:Array Value) (t:TypeId) (fr:Nat×Nat),KT t→w.heap[k]? = some (Obj.cells cs t fr)→w'.heap[k]? = w.heap[k]?
def MP (B g:Nat) (r:MvP) (w:World) (e:Ending) (w':World):Prop:=e=.returned (mvV r.2.1 r.2.2.1 r.2.2.2)∧Below B w w'∧Keep w w'∧(r.2.2.2=0→RS (r.2.1≤5) w' B g r.1)
theorem Keep.trans {a b c:World} (h:Keep a b) (k:Keep b c):Keep a c:=fun q cs t fr ht hh=>by
 have h1:=h q cs t fr ht hh
 rw [← h1];exact k q cs t fr ht (h1.trans hh)
theorem Keep.below {a b:World} (h:Below a.heap.size a b):Keep a b:=fun q cs t fr ht hh=>h.block q (heap_lt hh)
theorem Keep.refl (a:World):Keep a a:=fun q cs t fr ht hh=>rfl
section
variable {E:Prop} {w w':World} {B g:Nat} {x x':RdP} {tv bpv upv bv uv pv:Value}
theorem Rws.as (h:Rws E w B x tv bpv upv bv uv pv) (h1:x'.m.inp=x.m.inp) (h2:x'.m.buf=x.m.buf) (h3:x'.us=x.us) (h4:x'.ps=x.ps) (h5:x'.m.u.path=x.m.u.path) (h6:x'.m.base.path=x.m.base.path):Rws E w B x' tv bpv upv bv uv pv :=
 ⟨by rw [h1];exact h.t,by rw [h2];exact h.b,by rw [h3];exact h.u,by rw [h4];exact h.p,by rw [h5];exact h.q,h.tb,h.tu,h.tp,h.bu,h.bp,h.up,by rw [h6];exact h.e⟩
theorem Rd.put (h:Rd E w B g x tv bpv upv bv uv pv) (i:Nat) (v:Value) (hc:(rdC x tv bpv upv bv uv pv).set i v=rdC x' tv bpv upv bv uv pv) (h1:x'.m.inp=x.m.inp:=by rfl) (h2:x'.m.buf=x.m.buf:=by rfl) (h3:x'.us=x.us:=by rfl) (h4:x'.ps=x.ps:=by rfl) (h5:x'.m.u.path=x.m.u.path:=by rfl) (h6:x'.m.base.path=x.m.base.path:=by rfl) :
 Rd E (w.setCell ⟨g,i,none⟩ v) B g x' tv bpv upv bv uv pv :=
 ⟨h.bg,by rw [← hc];exact h.c.set i v,(h.r.set h.c i v).as h1 h2 h3 h4 h5 h6,h.tab.below (setB w h.bg i v)⟩
theorem Rd.takes (h:Rd E w B g x tv bpv upv bv uv pv):Rd E (w.setCell ⟨g,49,none⟩ nilV) B g (x.on takeM) tv bpv upv nilV uv pv:=by
 have hs:=h.r.set h.c 49 nilV
 exact ⟨h.bg,h.c.set 49 nilV,⟨hs.t,Own.nil _ _ _ _,hs.u,hs.p,hs.q,(ap_nil tv).symm,hs.tu,hs.tp,ap_nil _,ap_nil _,hs.up,hs.e⟩,h.tab.below (setB w h.bg 49 nilV)⟩
theorem Rd.gathers {bv':Value} {c:Int} (h:Rd E w B g x tv bpv upv bv uv pv) (hG:Grew w w' B bv bv') (ho:IOwn w' B bv' (x.m.buf++[c])):Rd E (w'.setCell ⟨g,49,none⟩ bv') B g (x.on (gatherM · c)) tv bpv upv bv' uv pv:=by
 have hc:=hG.rd h.c (fun k e=>by obtain ⟨cs,fr,hh⟩:=(own_trow h.r.b).2 k e;exact ⟨cs,_,fr,hh,by decide⟩)
 exact ⟨h.bg,hc.set 49 bv',(h.r.growB hG ho).set hc 49 bv',(h.tab.below hG.bel).below (setB w' h.bg 49 bv')⟩
end
structure St (E:Prop) (W w:World) (B g R:Nat) (x:RdP) (tv bpv upv bv uv pv:Value):Prop where
 rd:Rd E w B g x tv bpv upv bv uv pv
 res:Bc MT w R [.int .i64 0,.int .i64 0,.int .i64 0]
 bs:B≤W.heap.size
 low:W.heap.size≤R
 bel:Below B W w
 keep:Keep W w
section
variable {E:Prop} {W w w':World} {B g R:Nat} {x x':RdP} {tv bpv upv bv uv pv:Value}
theorem St.new (h:Rd E w B g x tv bpv upv bv uv pv):St E w (w.alloc zMv) B g w.heap.size x tv bpv upv bv uv pv :=
 have hb:Below w.heap.size w (w.alloc zMv):=(Below.refl _ _).alloc (Nat.le_refl _) _
 ⟨h.below hb,heap_alloc_new w _,h.bs,Nat.le_refl _,hb.mono h.bs,Keep.below hb⟩
theorem typ_apart {k q:Nat} {xs:List Value} {t:TypeId} (h:Bc t w k xs) (hh:∃cs t' fr,w.heap[q]? = some (Obj.cells cs t' fr)∧t'≠t):q≠k:=by
 rintro rfl
 obtain ⟨cs,t',fr,hh,ht⟩:=hh
 unfold Bc at h;rw [h] at hh;injection hh with e;injection e with e1 e2 e3;exact ht e2.symm
theorem St.ne (h:St E W w B g R x tv bpv upv bv uv pv):R≠g:=typ_apart h.rd.c ⟨_,_,_,h.res,by decide⟩
theorem St.below (h:St E W w B g R x tv bpv upv bv uv pv) (hb:Below w.heap.size w w'):St E W w' B g R x tv bpv upv bv uv pv :=
 ⟨h.rd.below hb,h.res.below hb,h.bs,h.low,h.bel.trans (hb.mono h.rd.bs),h.keep.trans (Keep.below hb)⟩
theorem keepSet {i:Nat} {v:Value} {xs:List Value} (h:Bc RT w g xs):Keep w (w.setCell ⟨g,i,none⟩ v):=fun k cs t fr ht hh=>heap_setCell_other w _ k _ (fun e=>typ_apart h ⟨_,_,_,hh,by rcases ht with rfl | rfl<;>decide⟩ e)
theorem St.put {tv' bpv' upv' bv' uv' pv':Value} {i:Nat} {v:Value} (h:St E W w B g R x tv bpv upv bv uv pv) (hr:Rd E (w.setCell ⟨g,i,none⟩ v) B g x' tv' bpv' upv' bv' uv' pv'):St E W (w.setCell ⟨g,i,none⟩ v) B g R x' tv' bpv' upv' bv' uv' pv' :=
 ⟨hr,h.res.kept (heap_setCell_other w _ _ _ (fun e=>h.ne e)),h.bs,h.low,h.bel.setCell (p:=⟨g,i,none⟩) h.rd.bg v,h.keep.trans (keepSet h.rd.c)⟩
theorem St.after {E':Prop} {tv' bpv' upv' bv' uv' pv':Value} (h:St E W w B g R x tv bpv upv bv uv pv) (hb:Below B w w') (hk:Keep w w') (hr:Rd E' w' B g x' tv' bpv' upv' bv' uv' pv'):St E' W w' B g R x' tv' bpv' upv' bv' uv' pv' :=
 ⟨hr,h.res.kept (hk R _ MT _ (Or.inl rfl) h.res),h.bs,h.low,h.bel.trans hb,h.keep.trans hk⟩
theorem Grew.keep {v v':Value} (hG:Grew w w' B v v') (hv:∀k,v.ownBlock=some k→∃cs t fr,w.heap[k]? = some (Obj.cells cs t fr)∧¬KT t):Keep w w':=fun k cs t0 fr ht0 hh=>hG.old k (heap_lt hh) (fun e=>by
 obtain ⟨cs',t,fr',hh',ht⟩:=hv k e
 rw [hh] at hh';injection hh' with e;injection e with e1 e2 e3;exact ht (e2 ▸ ht0))
theorem Rd.res (h:Rd E w B g x tv bpv upv bv uv pv) {xs:List Value} (hR:Bc MT w R xs) (hl:B≤R) (i:Nat) (v:Value):Rd E (w.setCell ⟨R,i,none⟩ v) B g x tv bpv upv bv uv pv∧Bc MT (w.setCell ⟨R,i,none⟩ v) R (xs.set i v):=by
 have hne:∀k,(∃cs t fr,w.heap[k]? = some (Obj.cells cs t fr)∧t≠MT)→(w.setCell ⟨R,i,none⟩ v).heap[k]? = w.heap[k]? := fun k hk=>heap_setCell_other w _ k _ (fun e=>typ_apart hR hk e)
 refine ⟨⟨h.bg,h.c.kept (hne g ⟨_,_,_,h.c,by decide⟩),?_,h.tab.below (setB w hl i v)⟩,hR.set i v⟩
 have ki:∀{u:Value} {l:List Int},TRow fi 3 w u l→∀k,u.ownBlock=some k→(w.setCell ⟨R,i,none⟩ v).heap[k]? = w.heap[k]? := fun h k e=>by obtain ⟨cs,fr,hh⟩:=h.2 k e;exact hne k ⟨cs,_,fr,hh,by decide⟩
 have ks:∀{u:Value} {l:List (List UInt8)},PathO w B u l→∀k,u.ownBlock=some k→(w.setCell ⟨R,i,none⟩ v).heap[k]? = w.heap[k]? := fun h k e=>by obtain ⟨cs,fr,hh⟩:=(own_trow h).2 k e;exact hne k ⟨cs,_,fr,hh,by decide⟩
 have r:=h.r
 exact ⟨trow_kept r.t (by simp [World.setCell]) (ki r.t),own_kept r.b (ki (own_trow r.b)),own_kept r.u (ki (own_trow r.u)),own_kept r.p (ki (own_trow r.p)),own_kept r.q (ks r.q),r.tb,r.tu,r.tp,r.bu,r.bp,r.up,fun e=>⟨(r.e e).1,own_kept (r.e e).2 (ks (r.e e).2)⟩⟩
theorem St.fin (h:St E W w B g R x tv bpv upv bv uv pv) (a b c:Value):Below B W (((w.setCell ⟨R,0,none⟩ a).setCell ⟨R,1,none⟩ b).setCell ⟨R,2,none⟩ c)∧Keep W (((w.setCell ⟨R,0,none⟩ a).setCell ⟨R,1,none⟩ b).setCell ⟨R,2,none⟩ c)∧Rd E (((w.setCell ⟨R,0,none⟩ a).setCell ⟨R,1,none⟩ b).setCell ⟨R,2,none⟩ c) B g x tv bpv upv bv uv pv:=by
 have hl:B≤R:=Nat.le_trans h.bs h.low
 obtain ⟨h1,r1⟩:=h.rd.res h.res hl 0 a
 obtain ⟨h2,r2⟩:=h1.res r1 hl 1 b
 obtain ⟨h3,r3⟩:=h2.res r2 hl 2 c
 have hn:∀{k:Nat},k < W.heap.size→∀(v:World) (i:Nat) (u:Value),(v.setCell ⟨R,i,none⟩ u).heap[k]? = v.heap[k]? := fun hk v i u=>heap_setCell_other v _ _ _ (by have:=h.low;show _≠R;omega)
 refine ⟨((h.bel.setCell (p:=⟨R,0,none⟩) hl a).setCell (p:=⟨R,1,none⟩) hl b).setCell (p:=⟨R,2,none⟩) hl c,fun k cs t fr ht hh=>?_,h3⟩
 have hk:=heap_lt hh
 rw [hn hk,hn hk,hn hk]
 exact h.keep k cs t fr ht hh
theorem St.told {to by_:Nat} {a b c:Value} (h:St E W w B g R x tv bpv upv bv uv pv) (hE:to≤5→E):MP B g (x,to,by_,0) W (.returned (mvV to by_ 0)) (((w.setCell ⟨R,0,none⟩ a).setCell ⟨R,1,none⟩ b).setCell ⟨R,2,none⟩ c) :=
 ⟨rfl,(h.fin a b c).1,(h.fin a b c).2.1,fun _=>⟨_,_,_,_,_,_,(h.fin a b c).2.2.mono hE⟩⟩
theorem St.fails {y:RdP} {to by_ e:Nat} {a b c:Value} (h:St E W w B g R x tv bpv upv bv uv pv) (he:e≠0):MP B g (y,to,by_,e) W (.returned (mvV to by_ e)) (((w.setCell ⟨R,0,none⟩ a).setCell ⟨R,1,none⟩ b).setCell ⟨R,2,none⟩ c) :=
 ⟨rfl,(h.fin a b c).1,(h.fin a b c).2.1,fun h=>absurd h he⟩
end
theorem grow_gen {α:Type} {f:α→Value} {t ts:TypeId} {z:Value} {bytes:Nat} (hf:∀x,(f x).oneCell'=true) (hu:Tryz.prog.underlying ts=some (.slice t)) (hin:(Tryz.prog.info? t).map (fun i=>(i.zero,i.size,i.bytes))=some (some z,1,bytes)) (hz:z.cells.size=1) (hby:bytes≤16)
 {V:World} {B:Nat} {v x:Value} {xs:List α} {c:α} (hown:Own f t V B v xs) (hrow:Row f V x [c]) (hlen:xs.length≤900000) (hB:B≤V.heap.size) :
 ∃v' w',(Builtin.append_ #[ts,ts] ts #[v,x]).run Tryz.prog V=.ok v' w'∧Own f t w' B v' (xs++[c])∧Grew V w' B v v':=by
 obtain ⟨i0,hi,hz0,hz1,hz2⟩:=info_parts hin
 have hr0:=hrow
 obtain ⟨a,cap,rfl,h1,h2,h3⟩:=hrow
 obtain ⟨b,off,rfl,_,_⟩:=h3 (by simp)
 obtain ⟨_,hc⟩:=Row.cells hr0
 obtain ⟨v',w',hr,ho,hg,_,hloc⟩:=run_append_own_at (P:=Tryz.prog) V B ts ts t i0 z 1 bytes hu hi hz0 hz1 hz2 hz (by decide) v xs.length (xs.map f) hown ⟨b,off,none⟩ 1 cap ([c].map f) (by simp) hc
  (by intro u hu;obtain ⟨y,_,rfl⟩:=List.mem_map.1 hu;exact hf y) (by unfold maxLen;omega) (Nat.le_trans (Nat.mul_le_mul (show xs.length+1≤1000000 by omega) hby) (by decide)) hB
 refine ⟨v',w',hr,?_,⟨hg.size,fun k hk hne=>hg.block k hk (fun e=>hne e.symm),?_,(Below.refl B V).grown hg hB (fun k hk=>(own_typ hown k hk).1)⟩⟩
 ·unfold Own
  rw [List.length_append,List.map_append]
  exact ho
 ·rcases hloc with h | h
  ·exact Or.inl h
  ·exact Or.inr ⟨_,h,Nat.le_refl _⟩
theorem Grew.pre {w V w':World} {B:Nat} {v v':Value} (h:Grew V w' B v v') (hb:Below w.heap.size w V) (hB:B≤w.heap.size):Grew w w' B v v' :=
 ⟨Nat.le_trans hb.size h.size,fun k hk hne=>(h.old k (Nat.lt_of_lt_of_le hk hb.size) hne).trans (hb.block k hk),h.loc.imp id (fun ⟨k,e,hk⟩=>⟨k,e,Nat.le_trans hb.size hk⟩),(hb.mono hB).trans h.bel⟩
theorem push_intD {w:World} {B:Nat} {v:Value} {xs:List Int} (hown:IOwn w B v xs) (c:Int) (hlen:xs.length≤900000) (hB:B≤w.heap.size) :
 ∃v' w',(Builtin.append_ #[63,63] 63 #[v,.slice (some ⟨w.heap.size,0,none⟩) 1 1]).run Tryz.prog (w.alloc (.cells #[.int .i64 c] 3)).drew=.ok v' w'∧IOwn w' B v' (xs++[c])∧Grew w w' B v v':=by
 obtain ⟨v',w',hr,ho,hg⟩:=grow_gen (f:=fi) (V:=(w.alloc (.cells #[.int .i64 c] 3)).drew) (x:=.slice (some ⟨w.heap.size,0,none⟩) 1 1) (c:=c) (fun _=>rfl) Tryz.underlying63 info_i64 rfl (by decide) ((hown.alloc _).drew) ((Row.lit fi w [c] 3 (0,0) (by simp):IRow (w.alloc (.cells #[.int .i64 c] 3)) (.slice (some ⟨w.heap.size,0,none⟩) 1 1) [c]).drew) hlen (by show B≤(w.alloc _).heap.size;simp;omega)
 exact ⟨v',w',hr,ho,hg.pre ((Below.refl _ _).alloc (Nat.le_refl _) _).drew hB⟩
section
variable {E:Prop} {W w w':World} {B g R:Nat} {x:RdP} {tv bpv upv bv uv pv:Value}
theorem int_mt {v:Value} {l:List Int} (h:IOwn w B v l):∀k,v.ownBlock=some k→∃cs t fr,w.heap[k]? = some (Obj.cells cs t fr)∧¬KT t:=fun k e=>by obtain ⟨cs,fr,hh⟩:=(own_trow h).2 k e;exact ⟨cs,_,fr,hh,by decide⟩
theorem int_rt {v:Value} {l:List Int} (h:IOwn w B v l):∀k,v.ownBlock=some k→∃cs t fr,w.heap[k]? = some (Obj.cells cs t fr)∧t≠RT:=fun k e=>by obtain ⟨cs,fr,hh⟩:=(own_trow h).2 k e;exact ⟨cs,_,fr,hh,by decide⟩
theorem St.gather {bv':Value} {c:Int} (h:St E W w B g R x tv bpv upv bv uv pv) (hG:Grew w w' B bv bv') (ho:IOwn w' B bv' (x.m.buf++[c])) :
 w'.cell? ⟨g,49,none⟩=some bv∧w'.frozen? ⟨g,49,none⟩=false∧St E W (w'.setCell ⟨g,49,none⟩ bv') B g R (x.on (gatherM · c)) tv bpv upv bv' uv pv:=by
 have hc:=hG.rd h.rd.c (int_rt h.rd.r.b)
 have hk:=hG.keep (int_mt h.rd.r.b)
 refine ⟨(hc.cell 49 rfl).1,(hc.cell 49 rfl).2,h.rd.gathers hG ho,?_,h.bs,h.low,(h.bel.trans hG.bel).setCell (p:=⟨g,49,none⟩) h.rd.bg bv',(h.keep.trans hk).trans (keepSet hc)⟩
 exact (h.res.kept (hk R _ MT _ (Or.inl rfl) h.res)).kept (heap_setCell_other w' _ _ _ (fun e=>h.ne e))
end
theorem utake_raw {E:Prop} {w:World} {B g:Nat} {x:RdP} {tv bpv upv bv uv pv:Value} (h:Rd E w B g x tv bpv upv bv uv pv) :
 Calls Tryz.prog 129 #[.pointer (some ⟨g,0,none⟩)] w fun e w'=>e=.returned bv∧w'=w.setCell ⟨g,49,none⟩ nilV:=by
 have c1:=h.at 49 rfl
 have f1:=h.free 49 (by decide)
 clear h
 go_enter Tryz.func129,Tryz.ntmps129
 go_wp2_with fail
 go_ret
 exact ⟨rfl,rfl⟩
def Tk (E:Prop) (W:World) (B g R:Nat) (x:RdP) (tv bpv upv bv uv pv:Value) (w':World):Prop:=St E W w' B g R (x.on takeM) tv bpv upv nilV uv pv∧IOwn w' B bv x.m.buf∧Ap bv uv∧Ap bv pv
theorem utake_calls {E:Prop} {W w:World} {B g R:Nat} {x:RdP} {tv bpv upv bv uv pv:Value} (h:St E W w B g R x tv bpv upv bv uv pv) :
 Calls Tryz.prog 129 #[.pointer (some ⟨g,0,none⟩)] w fun e w'=>e=.returned bv∧Tk E W B g R x tv bpv upv bv uv pv w':=by
 refine (utake_raw h.rd).mono ?_
 rintro e w1 ⟨rfl,rfl⟩
 exact ⟨rfl,h.put h.rd.takes,(h.rd.r.set h.rd.c 49 nilV).b,h.rd.r.bu,h.rd.r.bp⟩
def sets (g:Nat) (l:List (Nat×Value)) (w:World):World:=l.foldl (fun w p=>w.setCell ⟨g,p.1,none⟩ p.2) w
theorem St.puts {E E':Prop} {W w:World} {B g R:Nat} {x x':RdP} {tv bpv upv bv uv pv bpv' upv':Value} (h:St E W w B g R x tv bpv upv bv uv pv) (hr:Rws E' w B x' tv bpv' upv' bv uv pv) (l:List (Nat×Value)) (hc:l.foldl (fun xs p=>xs.set p.1 p.2) (rdC x tv bpv upv bv uv pv)=rdC x' tv bpv' upv' bv uv pv) :
 St E' W (sets g l w) B g R x' tv bpv' upv' bv uv pv:=by
 have key:∀(l:List (Nat×Value)) (w:World) (xs:List Value),Bc RT w g xs→Rws E' w B x' tv bpv' upv' bv uv pv→Bc MT w R [.int .i64 0,.int .i64 0,.int .i64 0]→Below B W w→Keep W w→TB B w →
  Bc RT (sets g l w) g (l.foldl (fun xs p=>xs.set p.1 p.2) xs)∧Rws E' (sets g l w) B x' tv bpv' upv' bv uv pv∧Bc MT (sets g l w) R [.int .i64 0,.int .i64 0,.int .i64 0]∧Below B W (sets g l w)∧Keep W (sets g l w)∧TB B (sets g l w):=by
  intro l
  induction l with
  | nil=>exact fun w xs h1 h2 h3 h4 h5 h6=>⟨h1,h2,h3,h4,h5,h6⟩
  | cons p l ih =>
    intro w xs h1 h2 h3 h4 h5 h6
    exact ih _ _ (h1.set p.1 p.2) (h2.set h1 p.1 p.2) (h3.kept (heap_setCell_other w _ _ _ (fun e=>h.ne e))) (h4.setCell (p:=⟨g,p.1,none⟩) h.rd.bg p.2) (h5.trans (keepSet h1)) (h6.below (setB w h.rd.bg p.1 p.2))
 obtain ⟨k1,k2,k3,k4,k5,k6⟩:=key l w _ h.rd.c hr h.res h.bel h.keep h.rd.tab
 exact ⟨⟨h.rd.bg,by rw [← hc];exact k1,k2,k6⟩,k3,h.bs,h.low,k4,k5⟩
theorem St.flat {E:Prop} {W w:World} {B g R:Nat} {x x':RdP} {tv bpv upv bv uv pv:Value} (h:St E W w B g R x tv bpv upv bv uv pv) (l:List (Nat×Value)) (hc:l.foldl (fun xs p=>xs.set p.1 p.2) (rdC x tv bpv upv bv uv pv)=rdC x' tv bpv upv bv uv pv) (h1:x'.m.inp=x.m.inp:=by rfl) (h2:x'.m.buf=x.m.buf:=by rfl) (h3:x'.us=x.us:=by rfl) (h4:x'.ps=x.ps:=by rfl) (h5:x'.m.u.path=x.m.u.path:=by rfl) (h6:x'.m.base.path=x.m.base.path:=by rfl) :
 St E W (sets g l w) B g R x' tv bpv upv bv uv pv:=h.puts (h.rd.r.as h1 h2 h3 h4 h5 h6) l hc
end Go.Proofs.YtigfgloenjoeoaaGreatDoor
namespace Go.Proofs.YtigfgloenjoeoaaGreatDoor
open Go.RowKit
section
variable {P:Program} {md:Region.Mode} {ops:Array Oper} {Q:Exit→Act→World→Prop}
theorem wpOp_val {i:Nat} {K:Act→World→Prop} {a:Act} {w w':World} {o:Oper} {v:Value} (hi:ops[i]? = some o) (hg:o.guard=none) (he:(execOp a.eval o).run P w=.ok (.value v) w') (h:K (a.put o.dst v) w'):wpOp P ops Q i K a w:=by
 unfold wpOp
 rw [hi]
 have hw:Region.wanted o (yielded ops a.tmps)=true:=by simp [Region.wanted,hg]
 show if Region.wanted o (yielded ops a.tmps)=true then _ else _
 rw [if_pos hw]
 left
 unfold Oper.wp
 rw [he]
 exact h
theorem wpOp_skip {i:Nat} {K:Act→World→Prop} {a:Act} {w w':World} {o:Oper} (hi:ops[i]? = some o) (hg:o.guard=none) (he:(execOp a.eval o).run P w=.ok .skip w') (h:K (a.put o.dst undef) w'):wpOp P ops Q i K a w:=by
 unfold wpOp
 rw [hi]
 have hw:Region.wanted o (yielded ops a.tmps)=true:=by simp [Region.wanted,hg]
 show if Region.wanted o (yielded ops a.tmps)=true then _ else _
 rw [if_pos hw]
 left
 unfold Oper.wp
 rw [he]
 exact h
theorem wpAny_one {i:Nat} {fuel:Nat} {listed:Array Bool} {a:Act} {w w':World} {o:Oper} {v:Value} (hr:Region.ready md ops listed=[i]) (hi:ops[i]? = some o) (hg:o.guard=none) (he:(execOp a.eval o).run P w=.ok (.value v) w')
 (h:wpAny P md ops Q fuel (listed.setIfInBounds i true) (a.put o.dst v) w'):wpAny P md ops Q (fuel+1) listed a w :=
 wpAny_all hr (by simp) (fun j hj=>by rw [List.mem_singleton] at hj;subst hj;exact wpOp_val hi hg he h)
theorem wpAny_last {i:Nat} {fuel:Nat} {listed:Array Bool} {a:Act} {w w':World} {o:Oper} (hr:Region.ready md ops listed=[i]) (hi:ops[i]? = some o) (hg:o.guard=none) (he:(execOp a.eval o).run P w=.ok .skip w')
 (h:wpAny P md ops Q fuel (listed.setIfInBounds i true) (a.put o.dst undef) w'):wpAny P md ops Q (fuel+1) listed a w :=
 wpAny_all hr (by simp) (fun j hj=>by rw [List.mem_singleton] at hj;subst hj;exact wpOp_skip hi hg he h)
theorem wpAny_two {i k:Nat} {fuel:Nat} {listed:Array Bool} {a:Act} {w w2:World} {oi ok:Oper} {vi vk:Value} (hr:Region.ready md ops listed=[i,k]) (r1:Region.ready md ops (listed.setIfInBounds i true)=[k]) (r2:Region.ready md ops (listed.setIfInBounds k true)=[i])
 (hi:ops[i]? = some oi) (hk:ops[k]? = some ok) (gi:oi.guard=none) (gk:ok.guard=none)
 (e1:(execOp a.eval oi).run P w=.ok (.value vi) w) (e2:(execOp (a.put oi.dst vi).eval ok).run P w=.ok (.value vk) w2) (e3:(execOp a.eval ok).run P w=.ok (.value vk) w2) (e4:(execOp (a.put ok.dst vk).eval oi).run P w2=.ok (.value vi) w2)
 (hc:(a.put ok.dst vk).put oi.dst vi=(a.put oi.dst vi).put ok.dst vk) (hl:(listed.setIfInBounds k true).setIfInBounds i true=(listed.setIfInBounds i true).setIfInBounds k true)
 (h:wpAny P md ops Q fuel ((listed.setIfInBounds i true).setIfInBounds k true) ((a.put oi.dst vi).put ok.dst vk) w2):wpAny P md ops Q (fuel+2) listed a w :=
 wpAny_all hr (by simp) (fun j hj=>by
  rcases List.mem_cons.1 hj with rfl | hj
  ·exact wpOp_val hi gi e1 (wpAny_one r1 hk gk e2 h)
  ·rw [List.mem_singleton] at hj;subst hj
   refine wpOp_val hk gk e3 (wpAny_one r2 hi gi e4 ?_)
   rw [hl,hc];exact h)
end
theorem append_exec {ts:TypeId} {w w':World} {v x v':Value} (hr:(Builtin.append_ #[ts,ts] ts #[v,x]).run Tryz.prog w=.ok v' w') {o:Oper} {a:Act} (s y:Operand)
 (ho:o.op=.call { callee:=.builtin .append,args:=#[s,y],argTypes:=#[ts,ts] }) (hty:o.type=ts) (hs:a.eval s=v) (hx:a.eval y=x):(execOp a.eval o).run Tryz.prog w=.ok (.value v') w':=by
 unfold execOp
 simp only [ho,resolve,invoke,builtin,Sem.run_bind,Sem.run_pure,Result.andThen_ok,List.map_toArray,List.map_cons,List.map_nil,hs,hx,hty,hr]
end Go.Proofs.YtigfgloenjoeoaaGreatDoor
namespace Go.Proofs.YtigfgloenjoeoaaGreatDoor
open Go.RowKit
theorem St.pass {E:Prop} {W w w':World} {B g R:Nat} {x:RdP} {r:MvP} {tv bpv upv bv uv pv a b c:Value} (h:St E W w B g R x tv bpv upv bv uv pv) (hb:Below B w w') (hk:Keep w w') (hr:r.2.2.2=0→RS (r.2.1≤5) w' B g r.1) :
 MP B g r W (.returned (mvV r.2.1 r.2.2.1 r.2.2.2)) (((w'.setCell ⟨R,0,none⟩ a).setCell ⟨R,1,none⟩ b).setCell ⟨R,2,none⟩ c):=by
 have hl:B≤R:=Nat.le_trans h.bs h.low
 have hn:∀{k:Nat},k < W.heap.size→∀(v:World) (i:Nat) (u:Value),(v.setCell ⟨R,i,none⟩ u).heap[k]? = v.heap[k]? := fun hk v i u=>heap_setCell_other v _ _ _ (by have:=h.low;show _≠R;omega)
 refine ⟨rfl,(((h.bel.trans hb).setCell (p:=⟨R,0,none⟩) hl a).setCell (p:=⟨R,1,none⟩) hl b).setCell (p:=⟨R,2,none⟩) hl c,fun k cs t fr ht hh=>?_,fun he=>?_⟩
 ·have hkk:=heap_lt hh
  rw [hn hkk,hn hkk,hn hkk]
  exact (h.keep.trans hk) k cs t fr ht hh
 ·obtain ⟨tv',bpv',upv',bv',uv',pv',hr⟩:=hr he
  exact ⟨_,_,_,_,_,_,((h.after hb hk hr).fin a b c).2.2⟩
theorem uleave_calls {E:Prop} {w:World} {B g:Nat} {x:RdP} {tv bpv upv bv uv pv:Value} (h:Rd E w B g x tv bpv upv bv uv pv) (c:Int) :
 Calls Tryz.prog 132 #[.pointer (some ⟨g,0,none⟩),.int .i64 c] w fun e w'=>MP B g (leaveP x c) w e w':=by
 have HS:=hid (St.new h)
 unfold leaveP
 clear h
 cases h1:c==63
 ·cases h2:c==35
  ·rw [if_neg (by simpa using h1),if_neg (by simpa using h2)]
   go_enter Tryz.func132,Tryz.ntmps132
   go_upto_region 1 with fail
   generalize w.alloc (.cells #[.int .i64 0,.int .i64 0,.int .i64 0] MT)=w0 at *
   generalize w.heap.size=R at *
   go_wp2_with fail
   refine (uon_calls 17 _).mono ?_
   rintro e w1 ⟨rfl,hb⟩
   replace HS:=hid (HS.out.below hb)
   clear hb
   obtain ⟨d0,e0⟩:=HS.out.res.cell 0 rfl
   obtain ⟨d1,e1⟩:=HS.out.res.cell 1 rfl
   obtain ⟨d2,e2⟩:=HS.out.res.cell 2 rfl
   go_wp2_with fail
   refine bodyPost_ret (by simp [results,Tryz.results132,go_sem,d0,d1,d2];try rfl) rfl ?_
   exact HS.out.told (fun h=>absurd h (by decide))
  ·rw [if_neg (by simpa using h1),if_pos (by simpa using h2)]
   go_enter Tryz.func132,Tryz.ntmps132
   go_upto_region 1 with fail
   generalize w.alloc (.cells #[.int .i64 0,.int .i64 0,.int .i64 0] MT)=w0 at *
   generalize w.heap.size=R at *
   have c47:=HS.out.rd.at 47 rfl
   have c48:=HS.out.rd.at 48 rfl
   have f47:=HS.out.rd.free 47 (by decide)
   have f48:=HS.out.rd.free 48 (by decide)
   go_wp2_with fail
   replace HS:=hid (HS.out.flat (x':=x.on markM) [(47,.bool true),(48,.string (strOf []))] rfl)
   refine (uon_calls 16 _).mono ?_
   rintro e w1 ⟨rfl,hb⟩
   replace HS:=hid (HS.out.below hb)
   clear hb
   obtain ⟨d0,e0⟩:=HS.out.res.cell 0 rfl
   obtain ⟨d1,e1⟩:=HS.out.res.cell 1 rfl
   obtain ⟨d2,e2⟩:=HS.out.res.cell 2 rfl
   go_wp2_with fail
   refine bodyPost_ret (by simp [results,Tryz.results132,go_sem,d0,d1,d2];try rfl) rfl ?_
   exact HS.out.told (fun h=>absurd h (by decide))
 ·rw [if_pos (by simpa using h1)]
  go_enter Tryz.func132,Tryz.ntmps132
  go_upto_region 1 with fail
  generalize w.alloc (.cells #[.int .i64 0,.int .i64 0,.int .i64 0] MT)=w0 at *
  generalize w.heap.size=R at *
  have c45:=HS.out.rd.at 45 rfl
  have c46:=HS.out.rd.at 46 rfl
  have f45:=HS.out.rd.free 45 (by decide)
  have f46:=HS.out.rd.free 46 (by decide)
  go_wp2_with fail
  replace HS:=hid (HS.out.flat (x':=x.on askM) [(45,.bool true),(46,.string (strOf []))] rfl)
  refine (uon_calls 15 _).mono ?_
  rintro e w1 ⟨rfl,hb⟩
  replace HS:=hid (HS.out.below hb)
  clear hb
  obtain ⟨d0,e0⟩:=HS.out.res.cell 0 rfl
  obtain ⟨d1,e1⟩:=HS.out.res.cell 1 rfl
  obtain ⟨d2,e2⟩:=HS.out.res.cell 2 rfl
  go_wp2_with fail
  refine bodyPost_ret (by simp [results,Tryz.results132,go_sem,d0,d1,d2];try rfl) rfl ?_
  exact HS.out.told (fun h=>absurd h (by decide))
theorem ubegin_calls {E:Prop} {w:World} {B g:Nat} {x:RdP} {tv bpv upv bv uv pv:Value} (h:Rd E w B g x tv bpv upv bv uv pv) (c:Int) (hE:E) (hb:x.m.buf.length≤100000) :
 Calls Tryz.prog 88 #[.pointer (some ⟨g,0,none⟩),.int .i64 c] w fun e w'=>MP B g (beginP x c) w e w':=by
 have HS:=hid (St.new h)
 unfold beginP
 clear h
 have HL:=hid (fun w=>uletter_calls c w)
 cases hl:letC c
 ·rw [if_neg (by decide)]
  rw [hl] at HL
  go_enter Tryz.func88,Tryz.ntmps88
  go_upto_region 1 with fail
  generalize w.alloc (.cells #[.int .i64 0,.int .i64 0,.int .i64 0] MT)=w0 at *
  generalize w.heap.size=R at *
  go_wp2_with fail
  refine (HL.out _).mono ?_
  rintro e w1 ⟨rfl,rfl⟩
  go_wp2_with fail
  refine (uagain_calls 2 _).mono ?_
  rintro e w1 ⟨rfl,hb⟩
  replace HS:=hid (HS.out.below hb)
  clear hb
  obtain ⟨d0,e0⟩:=HS.out.res.cell 0 rfl
  obtain ⟨d1,e1⟩:=HS.out.res.cell 1 rfl
  obtain ⟨d2,e2⟩:=HS.out.res.cell 2 rfl
  go_wp2_with fail
  refine bodyPost_ret (by simp [results,Tryz.results88,go_sem,d0,d1,d2];try rfl) rfl ?_
  exact HS.out.told (fun _=>hE)
 ·rw [if_pos rfl]
  rw [hl] at HL
  go_enter Tryz.func88,Tryz.ntmps88
  go_upto_region 1 with fail
  generalize w.alloc (.cells #[.int .i64 0,.int .i64 0,.int .i64 0] MT)=w0 at *
  generalize w.heap.size=R at *
  have c49:=HS.out.rd.at 49 rfl
  have f49:=HS.out.rd.free 49 (by decide)
  go_wp2_with fail
  refine (HL.out _).mono ?_
  rintro e w1 ⟨rfl,rfl⟩
  go_wp2_with fail
  have c49a:=(HS.out.rd.below ((Below.refl _ _).alloc (Nat.le_refl _) (.cells #[.int .i64 (lowC c)] 3))).at 49 rfl
  have HN:=World.new_ne _ _ c49
  obtain ⟨v5,w5,hr5,ho5,hg5⟩:=push_intD HS.out.rd.r.b (lowC c) (by omega) HS.out.rd.bs
  obtain ⟨a5,q5,rfl,-⟩:=id ho5.row
  have HG5:=HS.out.gather hg5 ho5
  rw [show (x.m.buf++[(lowC c)]).length=x.m.buf.length+1 by simp] at HG5 hr5
  have c5:=HG5.1
  have f5:=HG5.2.1
  refine wp_region_any (by kernel_rfl) ?_
  try (change wpAny _ _ _ _ _ _ _ (World.drew _))
  refine wpAny_take (i:=0) (v:=?_) rfl (by kernel_rfl) (by kernel_rfl) (by kernel_rfl) (fun _ _ _ h=>h) (Or.inl ⟨by rfl,?_⟩) ?_
  rotate_left 1
  ·intro w;go_simp;with_reducible rfl
  refine wpAny_take (i:=1) (v:=?_) rfl (by kernel_rfl) (by kernel_rfl) (by kernel_rfl) (fun _ _ _ h=>h) (Or.inl ⟨by rfl,?_⟩) ?_
  rotate_left 1
  ·intro w;go_simp;with_reducible rfl
  refine wpAny_take (i:=2) (v:=?_) rfl (by kernel_rfl) (by kernel_rfl) (by kernel_rfl) (fun _ _ _ h=>h) (Or.inl ⟨by rfl,?_⟩) ?_
  rotate_left 1
  ·intro w;go_simp;with_reducible rfl
  refine wpAny_take (i:=3) (v:=?_) rfl (by kernel_rfl) (by kernel_rfl) (by kernel_rfl) (fun _ _ _ h=>h) (Or.inl ⟨by rfl,?_⟩) ?_
  rotate_left 1
  ·intro w;go_simp;with_reducible rfl
  refine wpAny_take (i:=5) (v:=?_) rfl (by kernel_rfl) (by kernel_rfl) (by kernel_rfl) (fun _ _ _ h=>h) (Or.inl ⟨by rfl,?_⟩) ?_
  rotate_left 1
  ·intro w;go_simp;with_reducible rfl
  refine wpAny_ready (rs:=[4,6]) (by kernel_rfl) (by simp) ?_
  refine AllReady.cons rfl (fun K hK=>?_) (AllReady.cons rfl (fun K hK=>?_) AllReady.nil)
  go_simp
  refine hK _ _ ?_
  clear hK K
  refine wpAny_ready (rs:=[6]) (by kernel_rfl) (by simp) ?_
  refine AllReady.cons rfl (fun K hK=>?_) AllReady.nil
  go_simp
  go_wp2_with ((go_at_call 125;refine (usmall_calls c _).mono ?_;rintro e w7 ⟨rfl,rfl⟩))
  refine wpAny_one (i:=7) (by kernel_rfl) rfl rfl (by go_simp;all_goals first | rfl | exact ⟨rfl,rfl⟩) ?_
  refine wpAny_one (i:=8) (by kernel_rfl) rfl rfl (append_exec hr5 _ _ rfl rfl rfl rfl) ?_
  refine wpAny_take (i:=9) (v:=?_) rfl (by kernel_rfl) (by kernel_rfl) (by kernel_rfl) (fun _ _ _ h=>h) (Or.inl ⟨by rfl,?_⟩) ?_
  rotate_left 1
  ·intro w;go_simp;with_reducible rfl
  refine wpAny_take (i:=10) (v:=?_) rfl (by kernel_rfl) (by kernel_rfl) (by kernel_rfl) (fun _ _ _ h=>h) (Or.inl ⟨by rfl,?_⟩) ?_
  rotate_left 1
  ·intro w;go_simp;with_reducible rfl
  refine wpAny_last (i:=11) (by kernel_rfl) rfl rfl (by go_simp;all_goals first | rfl | exact ⟨rfl,rfl⟩) ?_
  refine wpAny_done (by kernel_rfl) ?_ _
  rotate_left 1
  go_simp
  go_wp2_with ((go_at_call 125;refine (usmall_calls c _).mono ?_;rintro e w7 ⟨rfl,rfl⟩))
  refine wpAny_two (i:=4) (k:=7) (by kernel_rfl) (by kernel_rfl) (by kernel_rfl) rfl rfl rfl rfl (by go_simp;all_goals first | rfl | exact ⟨rfl,rfl⟩) (by go_simp;all_goals first | rfl | exact ⟨rfl,rfl⟩) (by go_simp;all_goals first | rfl | exact ⟨rfl,rfl⟩) (by go_simp;all_goals first | rfl | exact ⟨rfl,rfl⟩) (by rfl) (by rfl) ?_
  refine wpAny_one (i:=8) (by kernel_rfl) rfl rfl (append_exec hr5 _ _ rfl rfl rfl rfl) ?_
  refine wpAny_take (i:=9) (v:=?_) rfl (by kernel_rfl) (by kernel_rfl) (by kernel_rfl) (fun _ _ _ h=>h) (Or.inl ⟨by rfl,?_⟩) ?_
  rotate_left 1
  ·intro w;go_simp;with_reducible rfl
  refine wpAny_take (i:=10) (v:=?_) rfl (by kernel_rfl) (by kernel_rfl) (by kernel_rfl) (fun _ _ _ h=>h) (Or.inl ⟨by rfl,?_⟩) ?_
  rotate_left 1
  ·intro w;go_simp;with_reducible rfl
  refine wpAny_last (i:=11) (by kernel_rfl) rfl rfl (by go_simp;all_goals first | rfl | exact ⟨rfl,rfl⟩) ?_
  refine wpAny_done (by kernel_rfl) ?_ _
  all_goals
   replace HS:=hid HG5.2.2
   clear HG5 hg5 ho5 hr5 c5 f5 c49 f49 c49a HN
   go_wp2_with fail
   refine (uon_calls 1 _).mono ?_
   rintro e w1 ⟨rfl,hb⟩
   replace HS:=hid (HS.out.below hb)
   clear hb
   obtain ⟨d0,e0⟩:=HS.out.res.cell 0 rfl
   obtain ⟨d1,e1⟩:=HS.out.res.cell 1 rfl
   obtain ⟨d2,e2⟩:=HS.out.res.cell 2 rfl
   go_wp2_with fail
   refine bodyPost_ret (by simp [results,Tryz.results88,go_sem,d0,d1,d2];try rfl) rfl ?_
   exact HS.out.told (fun _=>hE)
theorem uslashOr_calls {E:Prop} {w:World} {B g:Nat} {x:RdP} {tv bpv upv bv uv pv:Value} (h:Rd E w B g x tv bpv upv bv uv pv) (c:Int) (hE:E) (hp:x.m.p≤100000) :
 Calls Tryz.prog 91 #[.pointer (some ⟨g,0,none⟩),.int .i64 c] w fun e w'=>MP B g (slashOrP x c) w e w':=by
 have HS:=hid (St.new h)
 unfold slashOrP
 clear h
 cases h1:c==47
 ·rw [if_neg (fun h=>(beq_eq_false_iff_ne.1 h1) h.1)]
  go_enter Tryz.func91,Tryz.ntmps91
  go_upto_region 1 with fail
  generalize w.alloc (.cells #[.int .i64 0,.int .i64 0,.int .i64 0] MT)=w0 at *
  generalize w.heap.size=R at *
  go_wp2_with fail
  refine (uagain_calls 5 _).mono ?_
  rintro e w1 ⟨rfl,hb⟩
  replace HS:=hid (HS.out.below hb)
  clear hb
  obtain ⟨d0,e0⟩:=HS.out.res.cell 0 rfl
  obtain ⟨d1,e1⟩:=HS.out.res.cell 1 rfl
  obtain ⟨d2,e2⟩:=HS.out.res.cell 2 rfl
  go_wp2_with fail
  refine bodyPost_ret (by simp [results,Tryz.results91,go_sem,d0,d1,d2];try rfl) rfl ?_
  exact HS.out.told (fun _=>hE)
 ·obtain ⟨n,hn⟩:∃n,signAt x.m.inp (x.m.p+1)=n:=⟨_,rfl⟩
  rw [hn]
  cases h2:n==47
  ·rw [if_neg (fun h=>(beq_eq_false_iff_ne.1 h2) h.2)]
   go_enter Tryz.func91,Tryz.ntmps91
   go_upto_region 1 with fail
   generalize w.alloc (.cells #[.int .i64 0,.int .i64 0,.int .i64 0] MT)=w0 at *
   generalize w.heap.size=R at *
   have HN:=hid (unext_calls HS.out.rd hp)
   rw [hn] at HN
   clear hn
   go_wp2_with fail
   refine (HN.out).mono ?_
   rintro e w1 ⟨rfl,rfl⟩
   go_wp2_with fail
   refine (uagain_calls 5 _).mono ?_
   rintro e w1 ⟨rfl,hb⟩
   replace HS:=hid (HS.out.below hb)
   clear hb
   obtain ⟨d0,e0⟩:=HS.out.res.cell 0 rfl
   obtain ⟨d1,e1⟩:=HS.out.res.cell 1 rfl
   obtain ⟨d2,e2⟩:=HS.out.res.cell 2 rfl
   go_wp2_with fail
   refine bodyPost_ret (by simp [results,Tryz.results91,go_sem,d0,d1,d2];try rfl) rfl ?_
   exact HS.out.told (fun _=>hE)
  ·rw [if_pos ⟨eq_of_beq h1,eq_of_beq h2⟩]
   go_enter Tryz.func91,Tryz.ntmps91
   go_upto_region 1 with fail
   generalize w.alloc (.cells #[.int .i64 0,.int .i64 0,.int .i64 0] MT)=w0 at *
   generalize w.heap.size=R at *
   have HN:=hid (unext_calls HS.out.rd hp)
   rw [hn] at HN
   clear hn
   go_wp2_with fail
   refine (HN.out).mono ?_
   rintro e w1 ⟨rfl,rfl⟩
   go_wp2_with fail
   refine (uover_calls 8 _).mono ?_
   rintro e w1 ⟨rfl,hb⟩
   replace HS:=hid (HS.out.below hb)
   clear hb
   obtain ⟨d0,e0⟩:=HS.out.res.cell 0 rfl
   obtain ⟨d1,e1⟩:=HS.out.res.cell 1 rfl
   obtain ⟨d2,e2⟩:=HS.out.res.cell 2 rfl
   go_wp2_with fail
   refine bodyPost_ret (by simp [results,Tryz.results91,go_sem,d0,d1,d2];try rfl) rfl ?_
   exact HS.out.told (fun h=>absurd h (by decide))
theorem uslashes_calls {E:Prop} {w:World} {B g:Nat} {x:RdP} {tv bpv upv bv uv pv:Value} (h:Rd E w B g x tv bpv upv bv uv pv) (c:Int) (hp:x.m.p≤100000) :
 Calls Tryz.prog 95 #[.pointer (some ⟨g,0,none⟩),.int .i64 c] w fun e w'=>MP B g (slashesP x c) w e w':=by
 have HS:=hid (St.new h)
 unfold slashesP
 clear h
 cases h1:c==47
 ·rw [if_neg (fun h=>(beq_eq_false_iff_ne.1 h1) h.1)]
  go_enter Tryz.func95,Tryz.ntmps95
  go_upto_region 1 with fail
  generalize w.alloc (.cells #[.int .i64 0,.int .i64 0,.int .i64 0] MT)=w0 at *
  generalize w.heap.size=R at *
  go_wp2_with fail
  refine (uagain_calls 8 _).mono ?_
  rintro e w1 ⟨rfl,hb⟩
  replace HS:=hid (HS.out.below hb)
  clear hb
  obtain ⟨d0,e0⟩:=HS.out.res.cell 0 rfl
  obtain ⟨d1,e1⟩:=HS.out.res.cell 1 rfl
  obtain ⟨d2,e2⟩:=HS.out.res.cell 2 rfl
  go_wp2_with fail
  refine bodyPost_ret (by simp [results,Tryz.results95,go_sem,d0,d1,d2];try rfl) rfl ?_
  exact HS.out.told (fun h=>absurd h (by decide))
 ·obtain ⟨n,hn⟩:∃n,signAt x.m.inp (x.m.p+1)=n:=⟨_,rfl⟩
  rw [hn]
  cases h2:n==47
  ·rw [if_neg (fun h=>(beq_eq_false_iff_ne.1 h2) h.2)]
   go_enter Tryz.func95,Tryz.ntmps95
   go_upto_region 1 with fail
   generalize w.alloc (.cells #[.int .i64 0,.int .i64 0,.int .i64 0] MT)=w0 at *
   generalize w.heap.size=R at *
   have HN:=hid (unext_calls HS.out.rd hp)
   rw [hn] at HN
   clear hn
   go_wp2_with fail
   refine (HN.out).mono ?_
   rintro e w1 ⟨rfl,rfl⟩
   go_wp2_with fail
   refine (uagain_calls 8 _).mono ?_
   rintro e w1 ⟨rfl,hb⟩
   replace HS:=hid (HS.out.below hb)
   clear hb
   obtain ⟨d0,e0⟩:=HS.out.res.cell 0 rfl
   obtain ⟨d1,e1⟩:=HS.out.res.cell 1 rfl
   obtain ⟨d2,e2⟩:=HS.out.res.cell 2 rfl
   go_wp2_with fail
   refine bodyPost_ret (by simp [results,Tryz.results95,go_sem,d0,d1,d2];try rfl) rfl ?_
   exact HS.out.told (fun h=>absurd h (by decide))
  ·rw [if_pos ⟨eq_of_beq h1,eq_of_beq h2⟩]
   go_enter Tryz.func95,Tryz.ntmps95
   go_upto_region 1 with fail
   generalize w.alloc (.cells #[.int .i64 0,.int .i64 0,.int .i64 0] MT)=w0 at *
   generalize w.heap.size=R at *
   have HN:=hid (unext_calls HS.out.rd hp)
   rw [hn] at HN
   clear hn
   go_wp2_with fail
   refine (HN.out).mono ?_
   rintro e w1 ⟨rfl,rfl⟩
   go_wp2_with fail
   refine (uover_calls 8 _).mono ?_
   rintro e w1 ⟨rfl,hb⟩
   replace HS:=hid (HS.out.below hb)
   clear hb
   obtain ⟨d0,e0⟩:=HS.out.res.cell 0 rfl
   obtain ⟨d1,e1⟩:=HS.out.res.cell 1 rfl
   obtain ⟨d2,e2⟩:=HS.out.res.cell 2 rfl
   go_wp2_with fail
   refine bodyPost_ret (by simp [results,Tryz.results95,go_sem,d0,d1,d2];try rfl) rfl ?_
   exact HS.out.told (fun h=>absurd h (by decide))
theorem uslashS_calls {E:Prop} {w:World} {B g:Nat} {x:RdP} {tv bpv upv bv uv pv:Value} (h:Rd E w B g x tv bpv upv bv uv pv) (c:Int) :
 Calls Tryz.prog 92 #[.pointer (some ⟨g,0,none⟩),.int .i64 c] w fun e w'=>MP B g (slashP x c) w e w':=by
 have HS:=hid (St.new h)
 unfold slashP
 clear h
 cases h1:c==47
 ·rw [if_neg (by simpa using h1)]
  go_enter Tryz.func92,Tryz.ntmps92
  go_upto_region 1 with fail
  generalize w.alloc (.cells #[.int .i64 0,.int .i64 0,.int .i64 0] MT)=w0 at *
  generalize w.heap.size=R at *
  go_wp2_with fail
  refine (uagain_calls 13 _).mono ?_
  rintro e w1 ⟨rfl,hb⟩
  replace HS:=hid (HS.out.below hb)
  clear hb
  obtain ⟨d0,e0⟩:=HS.out.res.cell 0 rfl
  obtain ⟨d1,e1⟩:=HS.out.res.cell 1 rfl
  obtain ⟨d2,e2⟩:=HS.out.res.cell 2 rfl
  go_wp2_with fail
  refine bodyPost_ret (by simp [results,Tryz.results92,go_sem,d0,d1,d2];try rfl) rfl ?_
  exact HS.out.told (fun h=>absurd h (by decide))
 ·rw [if_pos (by simpa using h1)]
  go_enter Tryz.func92,Tryz.ntmps92
  go_upto_region 1 with fail
  generalize w.alloc (.cells #[.int .i64 0,.int .i64 0,.int .i64 0] MT)=w0 at *
  generalize w.heap.size=R at *
  go_wp2_with fail
  refine (uon_calls 9 _).mono ?_
  rintro e w1 ⟨rfl,hb⟩
  replace HS:=hid (HS.out.below hb)
  clear hb
  obtain ⟨d0,e0⟩:=HS.out.res.cell 0 rfl
  obtain ⟨d1,e1⟩:=HS.out.res.cell 1 rfl
  obtain ⟨d2,e2⟩:=HS.out.res.cell 2 rfl
  go_wp2_with fail
  refine bodyPost_ret (by simp [results,Tryz.results92,go_sem,d0,d1,d2];try rfl) rfl ?_
  exact HS.out.told (fun h=>absurd h (by decide))
theorem uskip_calls {E:Prop} {w:World} {B g:Nat} {x:RdP} {tv bpv upv bv uv pv:Value} (h:Rd E w B g x tv bpv upv bv uv pv) (c:Int) :
 Calls Tryz.prog 96 #[.pointer (some ⟨g,0,none⟩),.int .i64 c] w fun e w'=>MP B g (skipP x c) w e w':=by
 have HS:=hid (St.new h)
 unfold skipP
 clear h
 cases h1:c==47
 ·cases h2:c==92
  ·rw [if_neg (fun h=>h.elim (beq_eq_false_iff_ne.1 h1) (beq_eq_false_iff_ne.1 h2))]
   go_enter Tryz.func96,Tryz.ntmps96
   go_upto_region 1 with fail
   generalize w.alloc (.cells #[.int .i64 0,.int .i64 0,.int .i64 0] MT)=w0 at *
   generalize w.heap.size=R at *
   go_wp2_with fail
   refine (uagain_calls 9 _).mono ?_
   rintro e w1 ⟨rfl,hb⟩
   replace HS:=hid (HS.out.below hb)
   clear hb
   obtain ⟨d0,e0⟩:=HS.out.res.cell 0 rfl
   obtain ⟨d1,e1⟩:=HS.out.res.cell 1 rfl
   obtain ⟨d2,e2⟩:=HS.out.res.cell 2 rfl
   go_wp2_with fail
   refine bodyPost_ret (by simp [results,Tryz.results96,go_sem,d0,d1,d2];try rfl) rfl ?_
   exact HS.out.told (fun h=>absurd h (by decide))
  ·rw [if_pos (Or.inr (eq_of_beq h2))]
   go_enter Tryz.func96,Tryz.ntmps96
   go_upto_region 1 with fail
   generalize w.alloc (.cells #[.int .i64 0,.int .i64 0,.int .i64 0] MT)=w0 at *
   generalize w.heap.size=R at *
   go_wp2_with fail
   refine (uon_calls 8 _).mono ?_
   rintro e w1 ⟨rfl,hb⟩
   replace HS:=hid (HS.out.below hb)
   clear hb
   obtain ⟨d0,e0⟩:=HS.out.res.cell 0 rfl
   obtain ⟨d1,e1⟩:=HS.out.res.cell 1 rfl
   obtain ⟨d2,e2⟩:=HS.out.res.cell 2 rfl
   go_wp2_with fail
   refine bodyPost_ret (by simp [results,Tryz.results96,go_sem,d0,d1,d2];try rfl) rfl ?_
   exact HS.out.told (fun h=>absurd h (by decide))
 ·rw [if_pos (Or.inl (eq_of_beq h1))]
  go_enter Tryz.func96,Tryz.ntmps96
  go_upto_region 1 with fail
  generalize w.alloc (.cells #[.int .i64 0,.int .i64 0,.int .i64 0] MT)=w0 at *
  generalize w.heap.size=R at *
  go_wp2_with fail
  refine (uon_calls 8 _).mono ?_
  rintro e w1 ⟨rfl,hb⟩
  replace HS:=hid (HS.out.below hb)
  clear hb
  obtain ⟨d0,e0⟩:=HS.out.res.cell 0 rfl
  obtain ⟨d1,e1⟩:=HS.out.res.cell 1 rfl
  obtain ⟨d2,e2⟩:=HS.out.res.cell 2 rfl
  go_wp2_with fail
  refine bodyPost_ret (by simp [results,Tryz.results96,go_sem,d0,d1,d2];try rfl) rfl ?_
  exact HS.out.told (fun h=>absurd h (by decide))
theorem ubehind_calls {E:Prop} {w:World} {B g:Nat} {x:RdP} {tv bpv upv bv uv pv:Value} (h:Rd E w B g x tv bpv upv bv uv pv) (hE:E) (hp:x.m.p≤100000) :
 Calls Tryz.prog 130 #[.pointer (some ⟨g,0,none⟩)] w fun e w'=>MP B g (behindP x) w e w':=by
 have HS:=hid (St.new h)
 unfold behindP
 clear h
 obtain ⟨L,hL⟩:∃L,x.m.u.sch=L:=⟨_,rfl⟩
 rw [hL]
 obtain ⟨M,hM⟩:∃M,x.m.base.sch=M:=⟨_,rfl⟩
 rw [hM]
 have e4:((strOf L).toList==[102,105,108,101])=decide (L=[102,105,108,101]):=by rw [strOf_list];by_cases h:L=[102,105,108,101];(rw [decide_eq_true h];simpa using h);(rw [decide_eq_false h];simpa using h)
 have e5:((strOf M).toList==(strOf L).toList)=decide (M=L):=by rw [strOf_list,strOf_list];by_cases h:M=L;(rw [decide_eq_true h];simpa using h);(rw [decide_eq_false h];simpa using h)
 by_cases h1:L=[102,105,108,101]
 ·rw [if_pos h1]
  rw [decide_eq_true h1] at e4
  go_enter Tryz.func130,Tryz.ntmps130
  go_upto_region 1 with fail
  generalize w.alloc (.cells #[.int .i64 0,.int .i64 0,.int .i64 0] MT)=w0 at *
  generalize w.heap.size=R at *
  have c26:=HS.out.rd.at 26 rfl
  rw [hL] at c26
  have c2:=HS.out.rd.at 2 rfl
  rw [hM] at c2
  have c25:=HS.out.rd.at 25 rfl
  have HSp:=hid (fun n=>uspecial_calls (HS.out.rd.below (below_drewN _ n)))
  clear hL hM h1
  go_wp2_with fail
  refine (ufail_calls 4 _).mono ?_
  rintro e w1 ⟨rfl,hb⟩
  replace HS:=hid (HS.out.below hb)
  clear hb
  obtain ⟨d0,e0⟩:=HS.out.res.cell 0 rfl
  obtain ⟨d1,e1⟩:=HS.out.res.cell 1 rfl
  obtain ⟨d2,e2⟩:=HS.out.res.cell 2 rfl
  go_wp2_with fail
  refine bodyPost_ret (by simp [results,Tryz.results130,go_sem,d0,d1,d2];try rfl) rfl ?_
  exact HS.out.fails (by decide)
 ·rw [if_neg h1]
  rw [decide_eq_false h1] at e4
  cases hsp:spM x.m
  ·rw [Bool.false_and,Bool.false_and,if_neg (by decide),if_neg (by decide)]
   obtain ⟨n,hn⟩:∃n,signAt x.m.inp (x.m.p+1)=n:=⟨_,rfl⟩
   rw [hn]
   cases h2:n==47
   ·rw [if_neg (by simpa using h2)]
    go_enter Tryz.func130,Tryz.ntmps130
    go_upto_region 1 with fail
    generalize w.alloc (.cells #[.int .i64 0,.int .i64 0,.int .i64 0] MT)=w0 at *
    generalize w.heap.size=R at *
    have c26:=HS.out.rd.at 26 rfl
    rw [hL] at c26
    have c2:=HS.out.rd.at 2 rfl
    rw [hM] at c2
    have c25:=HS.out.rd.at 25 rfl
    have HSp:=hid (fun n=>uspecial_calls (HS.out.rd.below (below_drewN _ n)))
    rw [hsp] at HSp
    clear hL hM
    go_wp2_with fail
    go_quiet ((go_at_call 139;exact Calls.quiet_of_same (HSp.out _)))
    replace HS:=hid (HS.out.below (below_drewN _ nq))
    generalize w0.drewN nq=w0 at *
    go_wp2_with fail
    replace HSp:=hid (uspecial_calls HS.out.rd)
    rw [hsp] at HSp
    refine (HSp.out).mono ?_
    rintro e w1 ⟨rfl,rfl⟩
    go_wp2_with fail
    have HN:=hid (unext_calls HS.out.rd hp)
    rw [hn] at HN
    have c42:=HS.out.rd.at 42 rfl
    have f42:=HS.out.rd.free 42 (by decide)
    refine (HN.out).mono ?_
    rintro e w1 ⟨rfl,rfl⟩
    go_wp2_with fail
    replace HS:=hid (HS.out.flat (x':=x.on darkU) [(42,.bool true)] rfl)
    refine (uon_calls 14 _).mono ?_
    rintro e w1 ⟨rfl,hb⟩
    replace HS:=hid (HS.out.below hb)
    clear hb
    obtain ⟨d0,e0⟩:=HS.out.res.cell 0 rfl
    obtain ⟨d1,e1⟩:=HS.out.res.cell 1 rfl
    obtain ⟨d2,e2⟩:=HS.out.res.cell 2 rfl
    go_wp2_with fail
    refine bodyPost_ret (by simp [results,Tryz.results130,go_sem,d0,d1,d2];try rfl) rfl ?_
    exact HS.out.told (fun h=>absurd h (by decide))
   ·rw [if_pos (by simpa using h2)]
    go_enter Tryz.func130,Tryz.ntmps130
    go_upto_region 1 with fail
    generalize w.alloc (.cells #[.int .i64 0,.int .i64 0,.int .i64 0] MT)=w0 at *
    generalize w.heap.size=R at *
    have c26:=HS.out.rd.at 26 rfl
    rw [hL] at c26
    have c2:=HS.out.rd.at 2 rfl
    rw [hM] at c2
    have c25:=HS.out.rd.at 25 rfl
    have HSp:=hid (fun n=>uspecial_calls (HS.out.rd.below (below_drewN _ n)))
    rw [hsp] at HSp
    clear hL hM
    go_wp2_with fail
    go_quiet ((go_at_call 139;exact Calls.quiet_of_same (HSp.out _)))
    replace HS:=hid (HS.out.below (below_drewN _ nq))
    generalize w0.drewN nq=w0 at *
    go_wp2_with fail
    replace HSp:=hid (uspecial_calls HS.out.rd)
    rw [hsp] at HSp
    refine (HSp.out).mono ?_
    rintro e w1 ⟨rfl,rfl⟩
    go_wp2_with fail
    have HN:=hid (unext_calls HS.out.rd hp)
    rw [hn] at HN
    refine (HN.out).mono ?_
    rintro e w1 ⟨rfl,rfl⟩
    go_wp2_with fail
    refine (uover_calls 4 _).mono ?_
    rintro e w1 ⟨rfl,hb⟩
    replace HS:=hid (HS.out.below hb)
    clear hb
    obtain ⟨d0,e0⟩:=HS.out.res.cell 0 rfl
    obtain ⟨d1,e1⟩:=HS.out.res.cell 1 rfl
    obtain ⟨d2,e2⟩:=HS.out.res.cell 2 rfl
    go_wp2_with fail
    refine bodyPost_ret (by simp [results,Tryz.results130,go_sem,d0,d1,d2];try rfl) rfl ?_
    exact HS.out.told (fun _=>hE)
  ·rw [Bool.true_and]
   by_cases h2:x.m.has=true∧M=L
   ·rw [if_pos (by rw [h2.1,decide_eq_true h2.2];rfl)]
    rw [decide_eq_true h2.2] at e5
    go_enter Tryz.func130,Tryz.ntmps130
    go_upto_region 1 with fail
    generalize w.alloc (.cells #[.int .i64 0,.int .i64 0,.int .i64 0] MT)=w0 at *
    generalize w.heap.size=R at *
    have c26:=HS.out.rd.at 26 rfl
    rw [hL] at c26
    have c2:=HS.out.rd.at 2 rfl
    rw [hM] at c2
    have c25:=HS.out.rd.at 25 rfl
    have HSp:=hid (fun n=>uspecial_calls (HS.out.rd.below (below_drewN _ n)))
    rw [hsp] at HSp
    rw [h2.1] at c25
    clear hL hM h2
    go_wp2_with fail
    go_quiet ((go_at_call 139;exact Calls.quiet_of_same (HSp.out _)))
    replace HS:=hid (HS.out.below (below_drewN _ nq))
    generalize w0.drewN nq=w0 at *
    go_wp2_with fail
    refine (uon_calls 3 _).mono ?_
    rintro e w1 ⟨rfl,hb⟩
    replace HS:=hid (HS.out.below hb)
    clear hb
    obtain ⟨d0,e0⟩:=HS.out.res.cell 0 rfl
    obtain ⟨d1,e1⟩:=HS.out.res.cell 1 rfl
    obtain ⟨d2,e2⟩:=HS.out.res.cell 2 rfl
    go_wp2_with fail
    refine bodyPost_ret (by simp [results,Tryz.results130,go_sem,d0,d1,d2];try rfl) rfl ?_
    exact HS.out.told (fun _=>hE)
   ·rw [if_neg (by intro h;rw [Bool.and_eq_true,decide_eq_true_eq] at h;exact h2 h),if_pos rfl]
    cases hh:x.m.has
    ·skip
     go_enter Tryz.func130,Tryz.ntmps130
     go_upto_region 1 with fail
     generalize w.alloc (.cells #[.int .i64 0,.int .i64 0,.int .i64 0] MT)=w0 at *
     generalize w.heap.size=R at *
     have c26:=HS.out.rd.at 26 rfl
     rw [hL] at c26
     have c2:=HS.out.rd.at 2 rfl
     rw [hM] at c2
     have c25:=HS.out.rd.at 25 rfl
     have HSp:=hid (fun n=>uspecial_calls (HS.out.rd.below (below_drewN _ n)))
     rw [hsp] at HSp
     rw [hh] at c25
     clear hL hM h2 hh
     go_wp2_with fail
     go_quiet ((go_at_call 139;exact Calls.quiet_of_same (HSp.out _)))
     replace HS:=hid (HS.out.below (below_drewN _ nq))
     generalize w0.drewN nq=w0 at *
     go_wp2_with fail
     replace HSp:=hid (uspecial_calls HS.out.rd)
     rw [hsp] at HSp
     refine (HSp.out).mono ?_
     rintro e w1 ⟨rfl,rfl⟩
     go_wp2_with fail
     refine (uon_calls 7 _).mono ?_
     rintro e w1 ⟨rfl,hb⟩
     replace HS:=hid (HS.out.below hb)
     clear hb
     obtain ⟨d0,e0⟩:=HS.out.res.cell 0 rfl
     obtain ⟨d1,e1⟩:=HS.out.res.cell 1 rfl
     obtain ⟨d2,e2⟩:=HS.out.res.cell 2 rfl
     go_wp2_with fail
     refine bodyPost_ret (by simp [results,Tryz.results130,go_sem,d0,d1,d2];try rfl) rfl ?_
     exact HS.out.told (fun h=>absurd h (by decide))
    ·rw [decide_eq_false (fun e=>h2 ⟨hh,e⟩)] at e5
     go_enter Tryz.func130,Tryz.ntmps130
     go_upto_region 1 with fail
     generalize w.alloc (.cells #[.int .i64 0,.int .i64 0,.int .i64 0] MT)=w0 at *
     generalize w.heap.size=R at *
     have c26:=HS.out.rd.at 26 rfl
     rw [hL] at c26
     have c2:=HS.out.rd.at 2 rfl
     rw [hM] at c2
     have c25:=HS.out.rd.at 25 rfl
     have HSp:=hid (fun n=>uspecial_calls (HS.out.rd.below (below_drewN _ n)))
     rw [hsp] at HSp
     rw [hh] at c25
     clear hL hM h2 hh
     go_wp2_with fail
     go_quiet ((go_at_call 139;exact Calls.quiet_of_same (HSp.out _)))
     replace HS:=hid (HS.out.below (below_drewN _ nq))
     generalize w0.drewN nq=w0 at *
     go_wp2_with fail
     replace HSp:=hid (uspecial_calls HS.out.rd)
     rw [hsp] at HSp
     refine (HSp.out).mono ?_
     rintro e w1 ⟨rfl,rfl⟩
     go_wp2_with fail
     refine (uon_calls 7 _).mono ?_
     rintro e w1 ⟨rfl,hb⟩
     replace HS:=hid (HS.out.below hb)
     clear hb
     obtain ⟨d0,e0⟩:=HS.out.res.cell 0 rfl
     obtain ⟨d1,e1⟩:=HS.out.res.cell 1 rfl
     obtain ⟨d2,e2⟩:=HS.out.res.cell 2 rfl
     go_wp2_with fail
     refine bodyPost_ret (by simp [results,Tryz.results130,go_sem,d0,d1,d2];try rfl) rfl ?_
     exact HS.out.told (fun h=>absurd h (by decide))
theorem own_cut {α:Type} {f:α→Value} {t:TypeId} {w:World} {B n cap:Nat} {a:Option Addr} {l:List α} (h:Own f t w B (.slice a n cap) l) (m:Nat) (hm:m≤l.length):Own f t w B (.slice a m cap) (l.take m):=by
 have hl:(l.take m).length=m:=by rw [List.length_take];omega
 rcases h.2 with ⟨e,hn⟩ | ⟨g,cap',cur,e,hb,hg,hnc,hcm,hcs,htake⟩
 ·injection e with e1 e2 e3
  subst e1 e2 e3
  have:m=0:=by omega
  subst this
  exact Own.nil _ _ _ _
 ·injection e with e1 e2 e3
  subst e1 e2 e3
  refine ⟨by simp,.inr ⟨g,cap,cur,by rw [hl],hb,hg,by omega,hcm,hcs,?_⟩⟩
  rw [Nat.mul_one] at htake ⊢
  rw [hl,List.map_take,← htake,List.take_take,Nat.min_eq_left hm]
theorem St.path {E:Prop} {W w:World} {B g R:Nat} {x:RdP} {tv bpv upv upv' bv uv pv:Value} {l:List (List UInt8)} (h:St E W w B g R x tv bpv upv bv uv pv) (hq:PathO w B upv' l) :
 St False W (w.setCell ⟨g,44,none⟩ upv') B g R (x.on (fun m=>{ m with u:={ m.u with path:=l } })) tv bpv upv' bv uv pv:=by
 have r:=h.rd.r
 exact h.puts (x':=x.on (fun m=>{ m with u:={ m.u with path:=l } })) ⟨r.t,r.b,r.u,r.p,hq,r.tb,r.tu,r.tp,r.bu,r.bp,r.up,fun e=>e.elim⟩ [(44,upv')] rfl
theorem utakeAuth_calls {E:Prop} {W w:World} {B g R:Nat} {x:RdP} {tv bpv upv bv uv pv:Value} (h:St E W w B g R x tv bpv upv bv uv pv) :
 Calls Tryz.prog 136 #[.pointer (some ⟨g,0,none⟩)] w fun e w'=>e=.returned (.tuple #[])∧St E W w' B g R (x.on ownM) tv bpv upv bv uv pv:=by
 have HS:=hid h
 clear h
 have c3:=HS.out.rd.at 3 rfl
 have c4:=HS.out.rd.at 4 rfl
 have c27:=HS.out.rd.at 27 rfl
 have c28:=HS.out.rd.at 28 rfl
 have f27:=HS.out.rd.free 27 (by decide)
 have f28:=HS.out.rd.free 28 (by decide)
 go_enter Tryz.func136,Tryz.ntmps136
 go_wp2_with fail
 go_region
 replace HS:Hid (St E W (((w.setCell ⟨g,27,none⟩ (.string (strOf x.m.base.usr))).setCell ⟨g,28,none⟩ (.string (strOf x.m.base.pas))).drew) B g R (x.on (fun m=>{ m with u:={ m.u with usr:=m.base.usr,pas:=m.base.pas } })) tv bpv upv bv uv pv):=(HS.out.flat (x':=x.on (fun m=>{ m with u:={ m.u with usr:=m.base.usr,pas:=m.base.pas } })) [(27,.string (strOf x.m.base.usr)),(28,.string (strOf x.m.base.pas))] rfl).below ((Below.refl _ _).drew)
 generalize ((w.setCell ⟨g,27,none⟩ (.string (strOf x.m.base.usr))).setCell ⟨g,28,none⟩ (.string (strOf x.m.base.pas))).drew=w1 at *
 clear c3 c4 c27 c28 f27 f28
 have c5:=HS.out.rd.at 5 rfl
 have c6:=HS.out.rd.at 6 rfl
 have c7:=HS.out.rd.at 7 rfl
 have c8:=HS.out.rd.at 8 rfl
 have c9:=HS.out.rd.at 9 rfl
 have c10:=HS.out.rd.at 10 rfl
 have c11:=HS.out.rd.at 11 rfl
 have c12:=HS.out.rd.at 12 rfl
 have c13:=HS.out.rd.at 13 rfl
 have c14:=HS.out.rd.at 14 rfl
 have c15:=HS.out.rd.at 15 rfl
 have c16:=HS.out.rd.at 16 rfl
 have c17:=HS.out.rd.at 17 rfl
 have c29:=HS.out.rd.at 29 rfl
 have c30:=HS.out.rd.at 30 rfl
 have c31:=HS.out.rd.at 31 rfl
 have c32:=HS.out.rd.at 32 rfl
 have c33:=HS.out.rd.at 33 rfl
 have c34:=HS.out.rd.at 34 rfl
 have c35:=HS.out.rd.at 35 rfl
 have c36:=HS.out.rd.at 36 rfl
 have c37:=HS.out.rd.at 37 rfl
 have c38:=HS.out.rd.at 38 rfl
 have c39:=HS.out.rd.at 39 rfl
 have c40:=HS.out.rd.at 40 rfl
 have c41:=HS.out.rd.at 41 rfl
 have f29:=HS.out.rd.free 29 (by decide)
 have f30:=HS.out.rd.free 30 (by decide)
 have f31:=HS.out.rd.free 31 (by decide)
 have f32:=HS.out.rd.free 32 (by decide)
 have f33:=HS.out.rd.free 33 (by decide)
 have f34:=HS.out.rd.free 34 (by decide)
 have f35:=HS.out.rd.free 35 (by decide)
 have f36:=HS.out.rd.free 36 (by decide)
 have f37:=HS.out.rd.free 37 (by decide)
 have f38:=HS.out.rd.free 38 (by decide)
 have f39:=HS.out.rd.free 39 (by decide)
 have f40:=HS.out.rd.free 40 (by decide)
 have f41:=HS.out.rd.free 41 (by decide)
 go_wp2_with fail
 go_region
 go_wp2_with fail
 go_end0
 exact ⟨rfl,(HS.out.flat (x':=x.on ownM) [(29,.bool x.m.base.hasHost),(30,.int .i64 x.m.base.host.1),(31,.string (strOf x.m.base.host.2.1)),(32,.int .u32 (x.m.base.host.2.2.1:Int)),(33,u16v x.m.base.host.2.2.2 0),(34,u16v x.m.base.host.2.2.2 1),(35,u16v x.m.base.host.2.2.2 2),(36,u16v x.m.base.host.2.2.2 3),(37,u16v x.m.base.host.2.2.2 4),(38,u16v x.m.base.host.2.2.2 5),(39,u16v x.m.base.host.2.2.2 6),(40,u16v x.m.base.host.2.2.2 7),(41,.int .i64 x.m.base.port)] rfl).below ((Below.refl _ _).drew)⟩
theorem ushorten_calls {E:Prop} {W w:World} {B g R:Nat} {x:RdP} {tv bpv upv bv uv pv:Value} (h:St E W w B g R x tv bpv upv bv uv pv) (hq:x.m.u.path.length≤100000) :
 Calls Tryz.prog 138 #[.pointer (some ⟨g,0,none⟩)] w fun e w'=>e=.returned (.tuple #[])∧∃upv',St False W w' B g R (x.on shortM) tv bpv upv' bv uv pv:=by
 have HS:=hid h
 clear h
 have hn:=HS.out.rd.r.q
 obtain ⟨a,cap,rfl,h1,h2,-⟩:=HS.out.rd.r.q.row
 have HW:=hid (fun m hm=>own_cut hn m hm)
 clear hn
 have HX:Hid (x.m.u.path.dropLast=x.m.u.path.take (x.m.u.path.length-1)):=List.dropLast_eq_take
 unfold maxLen at h2
 obtain ⟨n,hn⟩:∃n,x.m.u.path.length=n:=⟨_,rfl⟩
 rw [hn] at h1 HX HW hq
 have c44:=HS.out.rd.at 44 rfl
 have f44:=HS.out.rd.free 44 (by decide)
 rw [hn] at c44
 have HP:=hid (fun m hm=>St.path (B:=B) (W:=W) (upv':=.slice a m cap) HS.out (HW.out m hm))
 have n0:(0:Int)≤(n:Int):=by omega
 have n1:(n:Int)≤100000:=by omega
 have n2:(n:Int)≤(cap:Int):=by omega
 have n3:IntKind.wrap .i64 ((n:Int)-1)=(n:Int)-1:=by rw [IntKind.wrap_i64];omega
 rcases Nat.eq_zero_or_pos n with h0 | h0
 ·subst h0
  clear hn hq h1 h2
  go_enter Tryz.func138,Tryz.ntmps138
  go_wp2_with fail
  go_region
  go_wp2_with fail
  go_end0
  refine ⟨rfl,.slice a 0 cap,?_⟩
  have h9:=(HP.out 0 (by omega)).below ((Below.refl _ _).drew)
  rw [show x.on shortM=x.on (fun m=>{ m with u:={ m.u with path:=x.m.u.path.take 0 } }) by unfold shortM;simp only [RdP.on];rw [HX.out];try rfl]
  exact h9
 ·obtain ⟨k,rfl⟩:∃k,n=k+1:=⟨n-1,by omega⟩
  have m0:((k+1:Nat):Int)-1=(k:Int):=by omega
  rw [m0] at n3
  have m1:¬(k:Int) < 0:=by omega
  have m2:(0:Int)≤(k:Int):=by omega
  have m3:(k:Int)≤(cap:Int):=by omega
  clear hn hq h1 h2
  go_enter Tryz.func138,Tryz.ntmps138
  go_wp2_with fail
  go_region
  go_wp2_with fail
  go_end0
  refine ⟨rfl,.slice a k cap,?_⟩
  have h9:=(HP.out k (by omega)).below ((Below.refl _ _).drew)
  rw [show x.on shortM=x.on (fun m=>{ m with u:={ m.u with path:=x.m.u.path.take k } }) by unfold shortM;simp only [RdP.on];rw [HX.out];try rfl]
  exact h9
theorem uscheme_calls {E:Prop} {w:World} {B g:Nat} {x:RdP} {tv bpv upv bv uv pv:Value} (h:Rd E w B g x tv bpv upv bv uv pv) (c:Int) (hE:E) (hp:x.m.p≤100000) (hb:x.m.buf.length≤100000) :
 Calls Tryz.prog 89 #[.pointer (some ⟨g,0,none⟩),.int .i64 c] w fun e w'=>MP B g (schemeP x c) w e w':=by
 have HS:=hid (St.new h)
 unfold schemeP
 clear h
 have HL:=hid (fun w=>uletter_calls c w)
 have HDg:=hid (fun w=>udigit_calls c w)
 by_cases hg:(letC c||digC c||c==43||c==45||c==46)=true
 ·rw [if_pos hg]
  have hq:letC c=true∨(letC c=false∧(digC c=true∨(digC c=false∧((c==43)=true∨((c==43)=false∧((c==45)=true∨((c==45)=false∧(c==46)=true))))))):=by cases hl:letC c<;>cases hd:digC c<;>cases h43:c==43<;>cases h45:c==45<;>cases h46:c==46<;>simp_all
  clear hg
  rcases hq with hl | ⟨hl,hd | ⟨hd,h43 | ⟨h43,h45 | ⟨h45,h46⟩⟩⟩⟩
  all_goals
  rw [hl] at HL
  try rw [hd] at HDg
  go_enter Tryz.func89,Tryz.ntmps89
  go_upto_region 1 with fail
  generalize w.alloc (.cells #[.int .i64 0,.int .i64 0,.int .i64 0] MT)=w0 at *
  generalize w.heap.size=R at *
  have c49:=HS.out.rd.at 49 rfl
  have f49:=HS.out.rd.free 49 (by decide)
  go_wp2_with (first | (go_at_call 123;refine (HL.out _).mono ?_;rintro e w6 ⟨rfl,rfl⟩) | (go_at_call 127;refine (HDg.out _).mono ?_;rintro e w6 ⟨rfl,rfl⟩))
  have c49a:=(HS.out.rd.below ((Below.refl _ _).alloc (Nat.le_refl _) (.cells #[.int .i64 (lowC c)] 3))).at 49 rfl
  have HN:=World.new_ne _ _ c49
  obtain ⟨v5,w5,hr5,ho5,hg5⟩:=push_intD HS.out.rd.r.b (lowC c) (by omega) HS.out.rd.bs
  obtain ⟨a5,q5,rfl,-⟩:=id ho5.row
  have HG5:=HS.out.gather hg5 ho5
  rw [show (x.m.buf++[(lowC c)]).length=x.m.buf.length+1 by simp] at HG5 hr5
  have c5:=HG5.1
  have f5:=HG5.2.1
  refine wp_region_any (by kernel_rfl) ?_
  try (change wpAny _ _ _ _ _ _ _ (World.drew _))
  refine wpAny_take (i:=0) (v:=?_) rfl (by kernel_rfl) (by kernel_rfl) (by kernel_rfl) (fun _ _ _ h=>h) (Or.inl ⟨by rfl,?_⟩) ?_
  rotate_left 1
  ·intro w;go_simp;with_reducible rfl
  refine wpAny_take (i:=1) (v:=?_) rfl (by kernel_rfl) (by kernel_rfl) (by kernel_rfl) (fun _ _ _ h=>h) (Or.inl ⟨by rfl,?_⟩) ?_
  rotate_left 1
  ·intro w;go_simp;with_reducible rfl
  refine wpAny_take (i:=2) (v:=?_) rfl (by kernel_rfl) (by kernel_rfl) (by kernel_rfl) (fun _ _ _ h=>h) (Or.inl ⟨by rfl,?_⟩) ?_
  rotate_left 1
  ·intro w;go_simp;with_reducible rfl
  refine wpAny_take (i:=3) (v:=?_) rfl (by kernel_rfl) (by kernel_rfl) (by kernel_rfl) (fun _ _ _ h=>h) (Or.inl ⟨by rfl,?_⟩) ?_
  rotate_left 1
  ·intro w;go_simp;with_reducible rfl
  refine wpAny_take (i:=5) (v:=?_) rfl (by kernel_rfl) (by kernel_rfl) (by kernel_rfl) (fun _ _ _ h=>h) (Or.inl ⟨by rfl,?_⟩) ?_
  rotate_left 1
  ·intro w;go_simp;with_reducible rfl
  refine wpAny_ready (rs:=[4,6]) (by kernel_rfl) (by simp) ?_
  refine AllReady.cons rfl (fun K hK=>?_) (AllReady.cons rfl (fun K hK=>?_) AllReady.nil)
  go_simp
  refine hK _ _ ?_
  clear hK K
  refine wpAny_ready (rs:=[6]) (by kernel_rfl) (by simp) ?_
  refine AllReady.cons rfl (fun K hK=>?_) AllReady.nil
  go_simp
  go_wp2_with ((go_at_call 125;refine (usmall_calls c _).mono ?_;rintro e w7 ⟨rfl,rfl⟩))
  refine wpAny_one (i:=7) (by kernel_rfl) rfl rfl (by go_simp;all_goals first | rfl | exact ⟨rfl,rfl⟩) ?_
  refine wpAny_one (i:=8) (by kernel_rfl) rfl rfl (append_exec hr5 _ _ rfl rfl rfl rfl) ?_
  refine wpAny_take (i:=9) (v:=?_) rfl (by kernel_rfl) (by kernel_rfl) (by kernel_rfl) (fun _ _ _ h=>h) (Or.inl ⟨by rfl,?_⟩) ?_
  rotate_left 1
  ·intro w;go_simp;with_reducible rfl
  refine wpAny_take (i:=10) (v:=?_) rfl (by kernel_rfl) (by kernel_rfl) (by kernel_rfl) (fun _ _ _ h=>h) (Or.inl ⟨by rfl,?_⟩) ?_
  rotate_left 1
  ·intro w;go_simp;with_reducible rfl
  refine wpAny_last (i:=11) (by kernel_rfl) rfl rfl (by go_simp;all_goals first | rfl | exact ⟨rfl,rfl⟩) ?_
  refine wpAny_done (by kernel_rfl) ?_ _
  rotate_left 1
  go_simp
  go_wp2_with ((go_at_call 125;refine (usmall_calls c _).mono ?_;rintro e w7 ⟨rfl,rfl⟩))
  refine wpAny_two (i:=4) (k:=7) (by kernel_rfl) (by kernel_rfl) (by kernel_rfl) rfl rfl rfl rfl (by go_simp;all_goals first | rfl | exact ⟨rfl,rfl⟩) (by go_simp;all_goals first | rfl | exact ⟨rfl,rfl⟩) (by go_simp;all_goals first | rfl | exact ⟨rfl,rfl⟩) (by go_simp;all_goals first | rfl | exact ⟨rfl,rfl⟩) (by rfl) (by rfl) ?_
  refine wpAny_one (i:=8) (by kernel_rfl) rfl rfl (append_exec hr5 _ _ rfl rfl rfl rfl) ?_
  refine wpAny_take (i:=9) (v:=?_) rfl (by kernel_rfl) (by kernel_rfl) (by kernel_rfl) (fun _ _ _ h=>h) (Or.inl ⟨by rfl,?_⟩) ?_
  rotate_left 1
  ·intro w;go_simp;with_reducible rfl
  refine wpAny_take (i:=10) (v:=?_) rfl (by kernel_rfl) (by kernel_rfl) (by kernel_rfl) (fun _ _ _ h=>h) (Or.inl ⟨by rfl,?_⟩) ?_
  rotate_left 1
  ·intro w;go_simp;with_reducible rfl
  refine wpAny_last (i:=11) (by kernel_rfl) rfl rfl (by go_simp;all_goals first | rfl | exact ⟨rfl,rfl⟩) ?_
  refine wpAny_done (by kernel_rfl) ?_ _
  all_goals
   replace HS:=hid HG5.2.2
   clear HG5 hg5 ho5 hr5 c5 f5 c49 f49 c49a HN
   go_wp2_with fail
   refine (uon_calls 1 _).mono ?_
   rintro e w1 ⟨rfl,hb⟩
   replace HS:=hid (HS.out.below hb)
   clear hb
   obtain ⟨d0,e0⟩:=HS.out.res.cell 0 rfl
   obtain ⟨d1,e1⟩:=HS.out.res.cell 1 rfl
   obtain ⟨d2,e2⟩:=HS.out.res.cell 2 rfl
   go_wp2_with fail
   refine bodyPost_ret (by simp [results,Tryz.results89,go_sem,d0,d1,d2];try rfl) rfl ?_
   exact HS.out.told (fun _=>hE)
 ·rw [if_neg hg]
  simp only [Bool.or_eq_true,not_or,Bool.not_eq_true] at hg
  obtain ⟨⟨⟨⟨hl,hd⟩,h43⟩,h45⟩,h46⟩:=hg
  rw [hl] at HL
  rw [hd] at HDg
  cases h58:c==58
  ·rw [if_neg (by simpa using h58)]
   go_enter Tryz.func89,Tryz.ntmps89
   go_upto_region 1 with fail
   generalize w.alloc (.cells #[.int .i64 0,.int .i64 0,.int .i64 0] MT)=w0 at *
   generalize w.heap.size=R at *
   go_wp2_with (first | (go_at_call 123;refine (HL.out _).mono ?_;rintro e w6 ⟨rfl,rfl⟩) | (go_at_call 127;refine (HDg.out _).mono ?_;rintro e w6 ⟨rfl,rfl⟩))
   refine (utake_calls HS.out).mono ?_
   rintro e w1 ⟨rfl,hT⟩
   replace HS:=hid hT.1
   clear hT
   have c1:=HS.out.rd.at 1 rfl
   have f1:=HS.out.rd.free 1 (by decide)
   go_wp2_with fail
   replace HS:=hid (HS.out.flat (x':=x.on (fun m=>{ m with buf:=[],p:=0 })) [(1,.int .i64 0)] rfl)
   refine (uagain_calls 2 _).mono ?_
   rintro e w1 ⟨rfl,hb⟩
   replace HS:=hid (HS.out.below hb)
   clear hb
   obtain ⟨d0,e0⟩:=HS.out.res.cell 0 rfl
   obtain ⟨d1,e1⟩:=HS.out.res.cell 1 rfl
   obtain ⟨d2,e2⟩:=HS.out.res.cell 2 rfl
   go_wp2_with fail
   refine bodyPost_ret (by simp [results,Tryz.results89,go_sem,d0,d1,d2];try rfl) rfl ?_
   exact HS.out.told (fun _=>hE)
  ·rw [if_pos (by simpa using h58)]
   go_enter Tryz.func89,Tryz.ntmps89
   go_upto_region 1 with fail
   generalize w.alloc (.cells #[.int .i64 0,.int .i64 0,.int .i64 0] MT)=w0 at *
   generalize w.heap.size=R at *
   go_wp2_with (first | (go_at_call 123;refine (HL.out _).mono ?_;rintro e w6 ⟨rfl,rfl⟩) | (go_at_call 127;refine (HDg.out _).mono ?_;rintro e w6 ⟨rfl,rfl⟩))
   refine (utake_calls HS.out).mono ?_
   rintro e w1 ⟨rfl,hT⟩
   replace HS:=hid hT.1
   have HRw:=hid hT.2.1.row
   clear hT
   go_wp2_with fail
   refine (text_calls _ _ _ HRw.out hb).mono ?_
   rintro e w2 ⟨rfl,hb2⟩
   replace HS:=hid (HS.out.below hb2)
   clear hb2 HRw
   have c26:=HS.out.rd.at 26 rfl
   have f26:=HS.out.rd.free 26 (by decide)
   go_wp2_with fail
   replace HS:=hid (HS.out.flat (x':=x.on schemeM) [(26,.string (strOf (textL x.m.buf)))] rfl)
   refine (ubehind_calls HS.out.rd hE hp).mono ?_
   rintro e w1 ⟨rfl,hb,hk,hr⟩
   have HR1:=HS.out.res.kept (hk _ _ MT _ (Or.inl rfl) HS.out.res)
   obtain ⟨d0,e0⟩:=HR1.cell 0 rfl
   obtain ⟨d1,e1⟩:=HR1.cell 1 rfl
   obtain ⟨d2,e2⟩:=HR1.cell 2 rfl
   have HP:=hid (fun a b c=>St.pass HS.out hb hk hr (a:=a) (b:=b) (c:=c))
   clear hb hk hr HR1
   go_wp2_with fail
   refine bodyPost_ret (by simp [results,Tryz.results89,go_sem,d0,d1,d2];try rfl) rfl ?_
   exact HP.out _ _ _
end Go.Proofs.YtigfgloenjoeoaaGreatDoor
