/- A range over an iterator that keeps what is left in a box of its own (a captured variable that it assigns): the statement, by the walk of the iterator and of one round. -/
import Derived.RangeFuncNested
import Derived.RangeFuncBound
import Derived.RangeFuncBox
namespace Go.Proofs.YtilamfbpbgcnpaaDoor
open Go Go.RowKit
set_option linter.unusedVariables false
set_option maxRecDepth 20000
/-- I does not mind the iterator's box B being written, nor new blocks, nor a block that holds no cells, from lo on. -/
def OwnBox {β : Type} (lo B : Nat) (I : β → World → Prop) : Prop :=
  ∀ s W W' row, I s W → W.grownBy W' row → (∀ r, row = some r → lo ≤ r ∧ (r = B ∨ ∃ o : Obj, W.heap[r]? = some o ∧ o.isCells = false)) → I s W'
theorem OwnBox.putObj {β : Type} {lo B : Nat} {I : β → World → Prop} (h : OwnBox lo B I) {s : β} {W : World} {l : Nat} {o : Obj} (o' : Obj) (hlo : lo ≤ l) (hs : I s W) (hl : W.heap[l]? = some o) (ho : o.isCells = false) : I s (W.putObj l o') :=
  h s W _ (some l) hs (grownBy_putObj' W l o') (fun r e => by cases e; exact ⟨hlo, .inr ⟨o, hl, ho⟩⟩)
theorem OwnBox.alloc {β : Type} {lo B : Nat} {I : β → World → Prop} (h : OwnBox lo B I) {s : β} {W : World} (o : Obj) (hs : I s W) : I s (W.alloc o) :=
  h s W _ none hs (World.grownBy_alloc W o none) (fun r e => by cases e)
theorem OwnBox.box {β : Type} {lo B : Nat} {I : β → World → Prop} (h : OwnBox lo B I) (hB : lo ≤ B) {s : β} {W : World} (v : Value) (hs : I s W) : I s (W.setCell ⟨B, 0, none⟩ v) :=
  h s W _ (some B) hs (grownBy_setCell' W B v) (fun r e => by cases e; exact ⟨hB, .inl rfl⟩)
/-- What the iterator promises: `all` come, one after another; X st: what its boxes hold. -/
def BoxSeq {α σ : Type} (F : Fence) (n : Nat) (P : Program) (g : Nat) (lb : Array Value) (encs : α → Array Value) (B : Nat) (X : σ → World → Prop) (st0 : σ) (all : List α) : Prop :=
  ∀ (l : Nat) (J Jx : List α → World → Prop) (W : World), (∀ pre W v, J pre W → J pre (W.setCell ⟨B, 0, none⟩ v)) →
    (∀ pre st x W1, J pre W1 → X st W1 → pre ++ [x] <+: all → YieldAt F (n - 1) P l (encs x) W1 fun e W' =>
      (e = .returned (.bool true) ∧ J (pre ++ [x]) W' ∧ X st W') ∨ (e = .returned (.bool false) ∧ Jx (pre ++ [x]) W')) →
    J [] W → X st0 W →
    CallsIn F n P g (#[.func (.yield l) #[] #[]] ++ lb) W fun e W' => (∃ v, e = .returned v) ∧ (J all W' ∨ (∃ pre, pre <+: all ∧ Jx pre W'))
variable {F : Fence} {n : Nat} {P : Program}
theorem wpIn_range_box {α σ : Type} {g : Operand} {ps : Array Tmp} {assign body : Code} {Q : Exit → Act → World → Prop} {a : Act} {w : World}
    (hro : F.round = none) (h1 : 1 ≤ n) {gf : Nat} {lb : Array Value} (hg : a.eval g = .func (.func gf) #[] lb) (hFg : F.fn gf) (eg : ∀ args w, (callFunc gf args).run P w = .ok (.enter gf args) w)
    {encs : α → Array Value} (hps : ∀ x, (encs x).size = ps.size) {lo B : Nat} (hlo : lo ≤ w.heap.size) (hloB : lo ≤ B) (hB : B < w.heap.size) {X : σ → World → Prop} {st0 : σ} {all : List α}
    (hseq : BoxSeq F (n - 1) P gf lb encs B X st0 all)
    (hX : Own X) (hX0 : X st0 w)
    (I : List α → World → Prop) (Ix : Code → List α → World → Prop) (hI : OwnBox lo B I) (hIx : ∀ c, OwnBox lo B (Ix c)) (h0 : I [] w) (a₁ : α → Act)
    (hassign : ∀ (l : Nat) (x : α) (W : World) (K : Act → World → Prop), K (a₁ x) W →
      assign.wpIn (F.inRound l) (n - 1 - 1) P (Exit.then K (fun _ _ _ => False)) { tmps := (ps.zip (encs x)).foldl (fun t (p, v) => t.setIfInBounds p v) a.tmps, defers := [] } W)
    (hbody : ∀ (l : Nat) (pre : List α) (st : σ) (x : α) (W : World), I pre W → X st W → pre ++ [x] <+: all → w.heap.size ≤ W.heap.size → body.wpIn (F.inRound l) (n - 1 - 1) P (ownPostG w.heap.size (fun _ W' => X st W') I Ix (pre ++ [x]) W) (a₁ x) W)
    (hdone : ∀ (D : Nat) (W : World), w.heap.size ≤ D → I all W → W.heap[D]? = some (.deferred (some [])) → Q .normal { a with defers := { target := .collected D, args := #[] } :: a.defers } W)
    (hstop : ∀ (D : Nat) (c : Code) (pre : List α) (W : World), w.heap.size ≤ D → pre <+: all → Ix c pre W → W.heap[D]? = some (.deferred (some [])) → c.wpIn F n P Q { a with defers := { target := .collected D, args := #[] } :: a.defers } W) :
    (Code.rangeFunc g ps assign body).wpIn F n P Q a w := by
  refine wpIn_rangeFunc fun fn hfn => ?_
  rw [hro]
  let D := w.heap.size
  let L := w.heap.size + 1
  let rcd : LoopState → Option Code → Loop := fun st pe => { state := st, pending := pe, fn, tmps := a.tmps, params := ps, assign, body, defers := w.heap.size }
  have hDL : D ≠ L := by show w.heap.size ≠ w.heap.size + 1; omega
  have hBD : D ≠ B := by show w.heap.size ≠ B; omega
  have hBL : L ≠ B := by show w.heap.size + 1 ≠ B; omega
  let W1 := (w.alloc (.deferred (some []))).alloc (.loop (rcd .ready none))
  have hW1 : (w.alloc (.deferred (some []))).alloc (.loop (rcd .ready none)) = W1 := rfl
  have hL1 : W1.heap[L]? = some (.loop (rcd .ready none)) := by
    have := World.alloc_heap_new (w.alloc (.deferred (some []))) (.loop (rcd .ready none)); rwa [World.size_alloc] at this
  have hK1 : W1.heap[D]? = some (.deferred (some [])) := (Below.heap_alloc _ _ _ (by simp [D])).trans (World.alloc_heap_new w _)
  refine ⟨L, [{ target := .collected D, args := #[] }], W1, { target := .fn (.func gf) lb, args := #[.func (.yield L) #[] #[]] }, W1, gf,
    #[.func (.yield L) #[] #[]] ++ lb, W1, run_enterLoop_outer _ _ _ _ _, ?_, ?_, ?_, fun _ => h1, ?_⟩
  · simp only [resolve, hg]; simp [go_sem, L]
  · intro f' hf'; simp [Target.leads] at hf'; subst hf'; exact hFg
  · simp [invoke, go_sem, eg]
  clear_value W1
  -- between two rounds; and where a round has said 'no more'
  let J : List α → World → Prop := fun pre W => I pre W ∧ W.heap[L]? = some (.loop (rcd .ready none)) ∧ W.heap[D]? = some (.deferred (some []))
  let Jx : List α → World → Prop := fun pre W => ∃ c, Ix c pre W ∧ W.heap[L]? = some (.loop (rcd .done (some c))) ∧ W.heap[D]? = some (.deferred (some []))
  refine (hseq L J Jx W1 ?_ ?_ ⟨by rw [← hW1]; exact hI.alloc _ (hI.alloc _ h0), hL1, hK1⟩ (by
    rw [← hW1]
    exact hX _ _ _ none (hX _ _ _ none hX0 (World.grownBy_alloc w _ none) (fun r e => by cases e)) (World.grownBy_alloc _ _ none) (fun r e => by cases e))).mono ?_
  · rintro pre W v ⟨hi, hl, hd⟩
    exact ⟨hI.box hloB v hi, (Below.heap_setCell _ _ _ _ hBL).trans hl, (Below.heap_setCell _ _ _ _ hBD).trans hd⟩
  · rintro pre st x W ⟨hi, hl, hk⟩ hx hpre
    have hlt : L < W.heap.size := (Array.getElem?_eq_some_iff.1 hl).1
    refine ⟨fn, _, assign, body, run_yield (P := P) (args := encs x) hl (hps x), roundIn_of_wpIn hfn (hassign _ x W _ ⟨_, run_beginRound hl rfl, ?_⟩)⟩
    have hl2 : (W.putObj L (.loop { rcd .ready none with state := .busy })).heap[L]? = some (.loop { rcd .ready none with state := .busy }) := World.putObj_heap_same hlt
    have hk2 : (W.putObj L (.loop { rcd .ready none with state := .busy })).heap[D]? = some (.deferred (some [])) := (World.putObj_heap_other hDL).trans hk
    have hloL : lo ≤ L := by show lo ≤ w.heap.size + 1; omega
    refine wpIn_mono (hbody _ pre st x _ (hI.putObj _ hloL hi hl rfl) (hX _ _ _ (some L) hx (grownBy_putObj' W L _) (fun r e => by cases e; exact ⟨_, hl, rfl⟩)) hpre (by simp only [World.putObj_size]; exact Nat.le_of_lt (Nat.lt_of_le_of_lt (Nat.le_succ _) hlt))) ?_
    have fin : ∀ (jump : Option Code) (W3 : World), KeepsFrom w.heap.size (W.putObj L (.loop { rcd .ready none with state := .busy })) W3 →
        (Instr.endRound L jump).run P W3 = .ok (.bool jump.isNone) (W3.putObj L (.loop (rcd (if jump.isNone then .ready else .done) jump))) ∧
        W3.heap[L]? = some (.loop { rcd .ready none with state := .busy }) ∧
        (W3.putObj L (.loop (rcd (if jump.isNone then .ready else .done) jump))).heap[L]? = some (.loop (rcd (if jump.isNone then .ready else .done) jump)) ∧
        (W3.putObj L (.loop (rcd (if jump.isNone then .ready else .done) jump))).heap[D]? = some (.deferred (some [])) := fun jump W3 hk3 => by
      have hl3 := hk3.same _ _ (Nat.le_succ _) hl2 rfl
      exact ⟨run_endRound (P := P) jump hl3, hl3, World.putObj_heap_same (Array.getElem?_eq_some_iff.1 hl3).1, (World.putObj_heap_other hDL).trans (hk3.same _ _ (Nat.le_refl _) hk2 rfl)⟩
    have leave : ∀ (c : Code) (W3 : World), KeepsFrom w.heap.size (W.putObj L (.loop { rcd .ready none with state := .busy })) W3 ∧ Ix c (pre ++ [x]) W3 →
        ∃ v w', (Instr.endRound L (some c)).run P W3 = .ok v w' ∧ ((Ending.returned v = .returned (.bool true) ∧ J (pre ++ [x]) w' ∧ X st w') ∨ (Ending.returned v = .returned (.bool false) ∧ Jx (pre ++ [x]) w')) := fun c W3 ⟨hk3, hi3⟩ => by
      obtain ⟨hr, hl3, hl4, hk4⟩ := fin (some c) W3 hk3
      exact ⟨_, _, hr, .inr ⟨rfl, c, (hIx _).putObj _ hloL hi3 hl3 rfl, hl4, hk4⟩⟩
    rintro e a3 W3 hp
    cases e with
    | normal =>
      obtain ⟨hk3, hx3, hi3⟩ := hp
      obtain ⟨hr, hl3, hl4, hk4⟩ := fin none W3 hk3
      exact ⟨_, _, hr, .inl ⟨rfl, ⟨hI.putObj _ hloL hi3 hl3 rfl, hl4, hk4⟩, hX _ _ _ (some L) hx3 (grownBy_putObj' W3 L _) (fun r e => by cases e; exact ⟨_, hl3, rfl⟩)⟩⟩
    | ret => exact leave _ _ hp
    | exit id => exact leave _ _ hp
    | goto t => exact leave _ _ hp
    | panic ch => exact hp.elim
    | outgrown => exact hp.elim
  · have hloL : lo ≤ L := by show lo ≤ w.heap.size + 1; omega
    rintro e W2 ⟨⟨v, rfl⟩, (⟨hi, hl, hk⟩ | ⟨pre, hpre, c, hi, hl, hk⟩)⟩
    · exact ⟨none, _, run_endLoop (P := P) hl (by simp [rcd]), hdone D _ (Nat.le_refl _) (hI.putObj _ hloL hi hl rfl) ((World.putObj_heap_other hDL).trans hk)⟩
    · exact ⟨some c, _, run_endLoop (P := P) hl (by simp [rcd]), hstop D c pre _ (Nat.le_refl _) hpre ((hIx c).putObj _ hloL hi hl rfl) ((World.putObj_heap_other hDL).trans hk)⟩
end Go.Proofs.YtilamfbpbgcnpaaDoor
