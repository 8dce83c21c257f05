/- The program's Parse. -/
import Derived.Test.YtilamfbpbgcnpaaDoorQyB
namespace Go.Proofs.YtilamfbpbgcnpaaDoor
open Go.RowKit Go.Shelf
attribute [local go_sem] Oper.semAt_some
set_option linter.unusedVariables false
set_option maxRecDepth 20000
set_option linter.unusedSimpArgs false
theorem SpX.keep {h : Nat} {st : List UInt8} {W W' : World} (hx : SpX h st W) (hb : ∀ k, h ≤ k → k < h + 3 → W'.heap[k]? = W.heap[k]?) : SpX h st W' :=
  ⟨(hb _ (by omega) (by omega)).trans hx.1, (hb _ (by omega) (by omega)).trans hx.2.1, (hb _ (by omega) (by omega)).trans hx.2.2⟩
/-- Between two rounds: what the boxes of l and of the results hold. -/
def PaI (w : World) (pre : List (List UInt8)) (W : World) : Prop :=
  (∃ v, Boxed W (w.heap.size + 2) 22 v ∧ POwn W (w.heap.size + 6) v (curP pre)) ∧ Boxed W w.heap.size 22 (.slice none 0 0) ∧ Boxed W (w.heap.size + 1) 25 (.int .i64 0) ∧ (curP pre).length ≤ 256 ∧ w.heap.size + 6 ≤ W.heap.size ∧ Below w.heap.size w W
def PaX (w : World) (c : Code) (pre : List (List UInt8)) (W : World) : Prop :=
  c = .ret ∧ Boxed W w.heap.size 22 (.slice none 0 0) ∧ Boxed W (w.heap.size + 1) 25 (.int .i64 11) ∧ 256 < (some1 pre).length ∧ Below w.heap.size w W
theorem box_kept {W W' : World} {B k : Nat} {t : TypeId} {v : Value} {row : Option Nat} (h : Boxed W k t v) (hg : W.grownBy W' row) (hk : k ≠ B) (hr : ∀ r, row = some r → r = B ∨ ∃ o : Obj, W.heap[r]? = some o ∧ o.isCells = false) : Boxed W' k t v :=
  h.kept hg fun e => by
    rcases hr k e.symm with e2 | ⟨o, ho, hc⟩
    · exact hk e2
    · rw [show W.heap[k]? = _ from h] at ho; cases ho; cases hc
theorem below_grown {w W W' : World} {row : Option Nat} (hb : Below w.heap.size w W) (hg : W.grownBy W' row) (hr : ∀ r, row = some r → w.heap.size ≤ r) : Below w.heap.size w W' := hb.grown hg hb.size hr
theorem PaI.own (w : World) : OwnBox w.heap.size (w.heap.size + 3) (PaI w) := by
  rintro pre W W' row ⟨⟨v, hv, ho⟩, h0, h1, hn, hs, hb⟩ hg hr
  have hr2 : ∀ r, row = some r → r = w.heap.size + 3 ∨ ∃ o : Obj, W.heap[r]? = some o ∧ o.isCells = false := fun r e => (hr r e).2
  refine ⟨⟨v, box_kept hv hg (by omega) hr2, ?_⟩, box_kept h0 hg (by omega) hr2, box_kept h1 hg (by omega) hr2, hn, Nat.le_trans hs hg.size, below_grown hb hg (fun r e => (hr r e).1)⟩
  refine World.ownsRow.kept ho hg ?_
  rcases ho.2 with ⟨rfl, _⟩ | ⟨g, cap, cur, rfl, hbg, hgb, _⟩
  · exact .inl rfl
  · refine .inr fun e' => ?_
    rcases hr2 g (by simpa [Value.ownBlock] using e'.symm) with e2 | ⟨o, ho, hc⟩
    · omega
    · rw [hgb] at ho; cases ho; cases hc
theorem PaX.own (w : World) (c : Code) : OwnBox w.heap.size (w.heap.size + 3) (PaX w c) := by
  rintro pre W W' row ⟨hc, h0, h1, hn, hb⟩ hg hr
  have hr2 : ∀ r, row = some r → r = w.heap.size + 3 ∨ ∃ o : Obj, W.heap[r]? = some o ∧ o.isCells = false := fun r e => (hr r e).2
  exact ⟨hc, box_kept h0 hg (by omega) hr2, box_kept h1 hg (by omega) hr2, hn, below_grown hb hg (fun r e => (hr r e).1)⟩
theorem parse_results {W : World} {g k : Nat} {c : Int} {v : Value} {tmps : Array Value} (h0 : Boxed W g 22 v) (h1 : Boxed W k 25 (.int .i64 c)) (t2 : tmps[2]?.getD undef = .pointer (some ⟨g, 0, none⟩)) (t3 : tmps[3]?.getD undef = .pointer (some ⟨k, 0, none⟩)) :
    (results Tryd.f9 tmps).run Tryd.prog W = .ok (.tuple #[v, .int .i64 c]) W := by
  simp [results, Tryd.f9, go_sem, t2, t3, h0.cell, h1.cell]
theorem splitG_mem (c : UInt8) : ∀ (l acc x : List UInt8), x ∈ splitG c acc l → x.length ≤ acc.length + l.length
  | [], acc, x, h => by rw [splitG_nil, List.mem_singleton] at h; subst h; simp
  | y :: r, acc, x, h => by
    by_cases hy : y = c
    · subst hy
      rw [splitG_sep, List.mem_cons] at h
      rcases h with rfl | h
      · simp
      · have := splitG_mem y r [] x h; simp at this ⊢; omega
    · rw [splitG_other hy] at h
      have := splitG_mem c r _ x h; simp at this ⊢; omega
theorem POwn.kept {W W' : World} {base : Nat} {v : Value} {l : List Pr} {row : Option Nat} (ho : POwn W base v l) (hg : W.grownBy W' row) (hr : ∀ r, row = some r → r < base) : POwn W' base v l := by
  refine World.ownsRow.kept ho hg ?_
  rcases ho.2 with ⟨rfl, _⟩ | ⟨g, cap, cur, rfl, hbg, hgb, _⟩
  · exact .inl rfl
  · refine .inr fun e' => ?_
    have := hr g (by simpa [Value.ownBlock] using e'.symm)
    omega
theorem POwn.belowD {W W1 : World} {base : Nat} {v : Value} {l : List Pr} (h : POwn W base v l) (hb : Below W.drew.heap.size W.drew W1) : POwn W1 base v l := by
  refine ⟨h.1, ?_⟩
  rcases h.2 with h' | ⟨g, cap, cur, rfl, hbg, hg, hr⟩
  · exact .inl h'
  · have hlt : g < W.heap.size := by
      rcases Nat.lt_or_ge g W.heap.size with h' | h'
      · exact h'
      · rw [Array.getElem?_eq_none h'] at hg; cases hg
    exact .inr ⟨g, cap, cur, rfl, hbg, (hb.block g hlt).trans hg, hr⟩
theorem own_some {w : World} {base : Nat} {v : Value} {xs : List Pr} {p : Pr} (h : POwn w base v (xs ++ [p])) : ∃ g cap, v = .slice (some ⟨g, 0, none⟩) (xs.length + 1) cap := by
  have h2 : w.ownsRow base 36 2 v (xs.length + 1) (flatP (xs ++ [p])) := by
    have := h
    unfold POwn at this
    rwa [List.length_append] at this
  exact ownsRow_succ h2
/-- A round's end, where a pair has come to the list. -/
theorem pa_round {w W W1 W3 : World} {obj : Obj} {B : Nat} {pre : List (List UInt8)} {x st : List UInt8} {p : Pr} {v v' : Value}
    (hv : Boxed W (w.heap.size + 2) 22 v) (h0 : Boxed W w.heap.size 22 (.slice none 0 0)) (h1 : Boxed W (w.heap.size + 1) 25 (.int .i64 0)) (hx : SpX (w.heap.size + 3) st W) (hb : Below w.heap.size w W) (hs : w.heap.size + 6 ≤ W.heap.size)
    (ho1 : POwn W1 (w.heap.size + 6) v (curP pre)) (hb1 : Below W.drew.heap.size W.drew W1) (ho3 : POwn W3 (w.heap.size + 6) v' (curP pre ++ [p])) (hg3 : (W1.alloc obj).grownBy W3 v.ownBlock) (hcur : curP (pre ++ [x]) = curP pre ++ [p]) (hlen : (curP pre).length < 256) :
    KeepsFrom B W (W3.setCell ⟨w.heap.size + 2, 0, none⟩ v') ∧ SpX (w.heap.size + 3) st (W3.setCell ⟨w.heap.size + 2, 0, none⟩ v') ∧ PaI w (pre ++ [x]) (W3.setCell ⟨w.heap.size + 2, 0, none⟩ v') := by
  have hlt : ∀ k, v.ownBlock = some k → w.heap.size + 6 ≤ k := fun k hk => (World.ownsRow.lt ho1 k hk).1
  have hsz1 : W.heap.size ≤ W1.heap.size := hb1.size
  have hblk : ∀ k, k < w.heap.size + 6 → W3.heap[k]? = W.heap[k]? := fun k hk => by
    refine (hg3.block k (by simp; omega) (fun e => by have := hlt k e.symm; omega)).trans ?_
    exact (Below.heap_alloc W1 obj k (by omega)).trans (hb1.block k (by show k < W.heap.size; omega))
  have hblk2 : ∀ k, k < w.heap.size + 6 → k ≠ w.heap.size + 2 → (W3.setCell ⟨w.heap.size + 2, 0, none⟩ v').heap[k]? = W.heap[k]? := fun k hk hne => (Below.heap_setCell _ _ _ k hne).trans (hblk k hk)
  refine ⟨?_, hx.keep fun k hk1 hk2 => hblk2 k (by omega) (by omega), ⟨v', ?_, ?_⟩, (hblk2 _ (by omega) (by omega)).trans h0, (hblk2 _ (by omega) (by omega)).trans h1, ?_, ?_, ?_⟩
  · have k1 : KeepsOthers W W1 := ⟨hsz1, fun k o hk _ => (hb1.block k (Array.getElem?_eq_some_iff.1 hk).1).trans hk⟩
    refine (((k1.trans (KeepsOthers.alloc W1 obj)).trans (KeepsOthers.of_grownBy hg3 fun j o ej hj => ?_)).trans (KeepsOthers.setCell _ _ _)).from _
    rcases (World.ownsRow.alloc ho1 obj).2 with ⟨rfl, _⟩ | ⟨g, cap, cur, rfl, _, hgb, _⟩
    · simp [Value.ownBlock] at ej
    · obtain rfl : g = j := by simpa [Value.ownBlock] using ej
      rw [hgb] at hj; cases hj; rfl
  · exact Boxed.set v' ((hblk _ (by omega)).trans hv)
  · rw [hcur]; exact ho3.kept (grownBy_setCell' W3 _ v') (fun r e => by cases e; omega)
  · rw [hcur, List.length_append]; simp; omega
  · rw [World.size_setCell]; have := hg3.size; simp at this; omega
  · have b3 : Below w.heap.size w W3 := by
      have b1 : Below w.heap.size w W1 := hb.drew.trans (hb1.mono hb.size)
      exact (b1.alloc b1.size obj).grown hg3 (by have := b1.size; simp; omega) (fun k hk => by have := hlt k hk; omega)
    exact b3.setCell (p := ⟨w.heap.size + 2, 0, none⟩) (by simp) _
/-- The way out, behind the last store. -/
theorem pa_out {w W : World} {D : Nat} {v : Value} {c : Nat} {l : List Pr} {s : List UInt8} {tmps : Array Value} {F : Fence} {n : Nat} {ds : List Deferred} (hds : ds = [{ target := .collected D, args := #[] }])
    (h0 : Boxed W w.heap.size 22 v) (h1 : Boxed W (w.heap.size + 1) 25 (.int .i64 (c : Int))) (hK : W.heap[D]? = some (.deferred (some []))) (hD : w.heap.size + 6 ≤ D) (hb : Below w.heap.size w W) (hr : PRow (W.putObj D (.deferred none)) v l) (hp : parseR s = (l, c))
    (t2 : tmps[2]?.getD undef = .pointer (some ⟨w.heap.size, 0, none⟩)) (t3 : tmps[3]?.getD undef = .pointer (some ⟨w.heap.size + 1, 0, none⟩)) :
    LeavesInM F n Tryd.prog Tryd.f9 tmps (fun e w' => ParsePost s w e w') ds .returning W := by
  subst hds
  have g := grownBy_putObj' W D (.deferred none)
  refine ⟨by simp, .inl ⟨_, _, rfl, run_takeDeferred hK, ?_⟩⟩
  refine ⟨_, parse_results (h0.kept g (by simp; omega)) (h1.kept g (by simp; omega)) t2 t3, ?_⟩
  exact ⟨v, by rw [hp], by rw [hp]; exact hr, below_grown hb g (fun r e => by cases e; omega)⟩
set_option maxRecDepth 100000 in
set_option maxHeartbeats 2000000 in
theorem parse_calls (s : ByteArray) (w : World) (T : MaxL w) :
    Calls Tryd.prog 9 #[.string s] w fun e w' => ParsePost s.data.toList w e w' := by
  have HT := hid T
  have hn := bytes_num s
  refine (callsIn_wide (n := 9)).1 ?_
  refine callsIn_of_wp_marks Tryd.func9 rfl trivial ?_ rfl
  simp only [Tryd.ntmps9, List.size_toArray, List.length_cons, List.length_nil, Nat.reduceAdd, Nat.reduceSub, Array.replicate_succ, Array.replicate_zero, List.push_toArray, List.append_toArray, List.nil_append, List.cons_append]
  rcases Nat.lt_or_ge 4000 s.size with hl | hl
  · have hp : parseR s.data.toList = ([], 3) := by unfold parseR; rw [if_pos (by rw [hn]; exact hl)]
    have h1 : (4000 : Int) < (s.size : Int) := by omega
    clear hn
    have b0 := Boxed.new w 22 (.slice none 0 0)
    have b1 := Boxed.new (w.alloc (.cells #[.slice none 0 0] 22)) 25 (.int .i64 3)
    rw [World.size_alloc] at b1
    have HB := hid (And.intro (b0.alloc (.cells #[.int .i64 3] 25)) b1)
    clear b0 b1
    gi_wp2
    refine ⟨_, parse_results HB.out.1 HB.out.2 rfl rfl, ?_⟩
    exact ⟨_, by rw [hp]; rfl, by rw [hp]; exact PRow.nil _, ((Below.refl _ w).alloc (Nat.le_refl _) _).alloc (by simp) _⟩
  · have h1 : (s.size : Int) ≤ 4000 := by omega
    gi_wp2_with (refine ⟨trivial, ?_⟩; gi_at_call 18; refine (callsIn_wide.2 (splitSeq_calls s _)).mono ?_; rintro e w' ⟨rfl, rfl⟩)
    have b0 := Boxed.new w 22 (.slice none 0 0)
    have b1 := Boxed.new (w.alloc (.cells #[.slice none 0 0] 22)) 25 (.int .i64 0)
    have b2 := Boxed.new ((w.alloc (.cells #[.slice none 0 0] 22)).alloc (.cells #[.int .i64 0] 25)) 22 (.slice none 0 0)
    have b3 := Boxed.new (((w.alloc (.cells #[.slice none 0 0] 22)).alloc (.cells #[.int .i64 0] 25)).alloc (.cells #[.slice none 0 0] 22)) 9 (.string s)
    have b4 := Boxed.new ((((w.alloc (.cells #[.slice none 0 0] 22)).alloc (.cells #[.int .i64 0] 25)).alloc (.cells #[.slice none 0 0] 22)).alloc (.cells #[.string s] 9)) 9 (.string ⟨#[38]⟩)
    have b5 := Boxed.new (((((w.alloc (.cells #[.slice none 0 0] 22)).alloc (.cells #[.int .i64 0] 25)).alloc (.cells #[.slice none 0 0] 22)).alloc (.cells #[.string s] 9)).alloc (.cells #[.string ⟨#[38]⟩] 9)) 3 (.int .i64 0)
    simp only [World.size_alloc, Nat.add_assoc, Nat.reduceAdd] at b0 b1 b2 b3 b4 b5 ⊢
    obtain ⟨W0, hW0⟩ : ∃ W0, (((((w.alloc (.cells #[.slice none 0 0] 22)).alloc (.cells #[.int .i64 0] 25)).alloc (.cells #[.slice none 0 0] 22)).alloc (.cells #[.string s] 9)).alloc (.cells #[.string ⟨#[38]⟩] 9)).alloc (.cells #[.int .i64 0] 3) = W0 := ⟨_, rfl⟩
    have hsz : W0.heap.size = w.heap.size + 6 := by rw [← hW0]; simp only [World.size_alloc, Nat.add_assoc, Nat.reduceAdd]
    have hb : Below w.heap.size w W0 := by
      rw [← hW0]
      exact ((((((Below.refl _ w).alloc (Nat.le_refl _) _).alloc (by simp) _).alloc (by simp only [World.size_alloc]; omega) _).alloc (by simp only [World.size_alloc]; omega) _).alloc (by simp only [World.size_alloc]; omega) _).alloc (by simp only [World.size_alloc]; omega) _
    have hX0 : SpX (w.heap.size + 3) s.data.toList W0 := by
      rw [← hW0]
      refine ⟨?_, ?_, ?_⟩
      · have : strOf s.data.toList = s := rfl
        rw [this]; exact (b3.alloc _).alloc _
      · exact b4.alloc _
      · exact b5
    have hI0 : PaI w [] W0 := by
      refine ⟨⟨_, ?_, POwn.nil _ _⟩, ?_, ?_, Nat.zero_le _, by omega, hb⟩
      · rw [← hW0]; exact ((b2.alloc _).alloc _).alloc _
      · rw [← hW0]; exact ((((b0.alloc _).alloc _).alloc _).alloc _).alloc _
      · rw [← hW0]; exact (((b1.alloc _).alloc _).alloc _).alloc _
    rw [hW0]
    clear b0 b1 b2 b3 b4 b5 hW0 hb
    refine wpIn_range_box (lo := w.heap.size) (B := w.heap.size + 3) rfl (by decide) (gf := 45) (lb := #[.pointer (some ⟨w.heap.size + 4, 0, none⟩), .pointer (some ⟨w.heap.size + 3, 0, none⟩), .pointer (some ⟨w.heap.size + 5, 0, none⟩)]) rfl trivial (enters_of Tryd.func45 (by kernel_rfl) rfl)
      (encs := fun x : List UInt8 => #[Value.string (strOf x)]) (fun _ => rfl) (by omega) (by omega) (by omega) (X := SpX (w.heap.size + 3)) (st0 := s.data.toList) (all := splitR 38 s.data.toList)
      (split_seq (w.heap.size + 3) (9 - 1) (by decide) s.data.toList (by omega)) (SpX.own _) hX0 (PaI w) (PaX w) (PaI.own w) (PaX.own w) hI0
      (fun x => { tmps := #[.string s, undef, .pointer (some ⟨w.heap.size, 0, none⟩), .pointer (some ⟨w.heap.size + 1, 0, none⟩), .pointer (some ⟨w.heap.size + 2, 0, none⟩), .string (strOf x), .string s, .int .i64 (s.size : Int), .bool (decide (4000 < (s.size : Int))), .string s,
        .func (.func 45) #[] #[.pointer (some ⟨w.heap.size + 4, 0, none⟩), .pointer (some ⟨w.heap.size + 3, 0, none⟩), .pointer (some ⟨w.heap.size + 5, 0, none⟩)], .string (strOf x), undef, undef, undef, undef, undef, undef, undef, undef, undef, undef, undef], defers := [] }) ?assign ?body ?done ?stop
    case assign =>
      intro l x W K hK
      gi_wp2
      exact hK
    case body =>
      rintro l pre st x W ⟨⟨v, hv, ho⟩, h0, h1', hn', hs, hb⟩ hx hpre hle
      have hd : 1 ≤ 9 - 1 - 1 := by decide
      have hmx : Tryd.prog.follows .mixedOrders = true := by kernel_rfl
      have hxm : x ∈ splitR 38 s.data.toList := hpre.subset (by simp)
      have hxl := splitG_mem 38 _ _ x hxm
      have hxl2 : x.length ≤ 4000 := by simp at hxl; omega
      have HP : Hid (∀ w1 : World, MaxL w1 → Calls Tryd.prog 19 #[.string (strOf x)] w1 fun e w' => e = .returned (.agg #[fq (pairR x).1, fq (pairR x).2]) ∧ Below w1.heap.size w1 w') := hid (fun w1 t => qpair_calls (strOf x) w1 (by show x.length ≤ _; omega) t)
      have HM : Hid (MaxL W) := hid (HT.out.below hb)
      have c2 := hv.cell
      have c0 := h0.cell
      have c1 := h1'.cell
      have f0 := h0.frozen
      have f1 := h1'.frozen
      have f2 := hv.frozen
      have HV := hid hv
      have HO := hid ho
      have H0 := hid h0
      have H1 := hid h1'
      have HX := hid hx
      have HB := hid hb
      have HS := hid hs
      have HN := hid hn'
      have HL := hid hle
      obtain ⟨a, cap, rfl, _, hcm, _⟩ := ho.row
      have hlen := curP_len pre
      clear hv ho h0 h1' hx hb hs hxl hxl2 hxm hn hle
      by_cases hne : x = []
      · subst hne
        have e : strOf [] = ⟨#[]⟩ := rfl
        rw [e]
        clear hlen
        gi_wp2
        have ec : curP (pre ++ [[]]) = curP pre := by unfold curP; rw [some1_snoc, if_pos rfl]
        exact ⟨KeepsFrom.refl _ _, HX.out, ⟨_, HV.out, by rw [ec]; exact HO.out⟩, H0.out, H1.out, by rw [ec]; exact hn', HS.out, HB.out⟩
      · have e : (strOf x).toList.isEmpty = false := by
          rw [strOf_list]
          cases x with
          | nil => exact absurd rfl hne
          | cons _ _ => rfl
        rcases Nat.lt_or_ge (curP pre).length 256 with hc | hc
        · have hc1 : ((((curP pre).length : Nat) : Int) == 256) = false := by rw [beq_eq_false_iff_ne]; omega
          clear hlen
          gi_wp2
          have hcur : Hid (curP (pre ++ [x]) = curP pre ++ [((pairR x).1, (pairR x).2)]) := hid (by unfold curP; rw [some1_snoc, if_neg hne, List.map_append]; rfl)
          generalize (pairR x).1 = X1 at *
          generalize (pairR x).2 = X2 at *
          have HMd : Hid (MaxL W.drew) := HM
          have HCur : Hid (curP (pre ++ [x]) = curP pre ++ [(X1, X2)]) := hcur
          have HLt := hid hc
          clear hcur hc
          refine wpIn_region_any hmx ?_
          change wpAnyIn _ _ _ _ _ _ _ _ _ (World.drew _)
          refine wpAnyIn_ready (rs := [0, 1]) (by kernel_rfl) (by simp) (AllReadyIn.cons rfl (fun K hK => ?_) (AllReadyIn.cons rfl (fun K hK => ?_) AllReadyIn.nil))
          · go_simp
            refine hK _ _ ?_
            clear hK K
            refine wpAnyIn_ready (rs := [1]) (by kernel_rfl) (by simp) (AllReadyIn.cons rfl (fun K hK => ?_) AllReadyIn.nil)
            go_simp
            refine hK _ _ ?_
            clear hK K
            refine wpAnyIn_ready (rs := [2]) (by kernel_rfl) (by simp) (AllReadyIn.cons rfl (fun K hK => ?_) AllReadyIn.nil)
            go_simp
            refine ⟨trivial, ?_⟩
            refine (CallsIn.inRound l (callsIn_wide.2 (HP.out _ HMd.out))).mono ?_
            rintro e W1 ⟨rfl, hb1⟩
            refine hK _ _ ?_
            clear hK K
            have HB1 := hid hb1
            clear hb1
            have HV1 : Hid (Boxed W1 (w.heap.size + 2) 22 (.slice a (curP pre).length cap)) := hid ((HB1.out.block _ HV.out.lt).trans HV.out)
            have HO1 : Hid (POwn W1 (w.heap.size + 6) (.slice a (curP pre).length cap) (curP pre)) := hid (POwn.belowD HO.out HB1.out)
            have HSz : Hid (w.heap.size + 6 ≤ W1.heap.size) := hid (Nat.le_trans HS.out HB1.out.size)
            have c2 := HV1.out.cell
            have c2a := (HV1.out.alloc (.cells #[fq X1, fq X2] 36)).cell
            refine wpAnyIn_ready (rs := [3]) (by kernel_rfl) (by simp) (AllReadyIn.cons rfl (fun K hK => ?_) AllReadyIn.nil)
            go_simp
            refine hK _ _ ?_
            clear hK K
            refine wpAnyIn_ready (rs := [4]) (by kernel_rfl) (by simp) (AllReadyIn.cons rfl (fun K hK => ?_) AllReadyIn.nil)
            obtain ⟨v2, W3, hr, ho3, hg3⟩ := pappend_run HO1.out (X1, X2) (by have := HLt.out; omega) HSz.out
            obtain ⟨g2, cap2, rfl⟩ := own_some ho3
            refine stepIn_append hr rfl (.tmp 17) (.tmp 20) rfl rfl rfl rfl ?_
            refine hK _ _ ?_
            clear hK K hr
            have HO3 := hid ho3
            have HG3 := hid hg3
            have HV3 : Hid (Boxed W3 (w.heap.size + 2) 22 (.slice a (curP pre).length cap)) := hid ((HV1.out.alloc _).kept hg3 (HV1.out.not_row (by decide) HO1.out))
            clear ho3 hg3 c2 c2a
            have c2 := HV3.out.cell
            have f2 := HV3.out.frozen
            refine wpAnyIn_ready (rs := [5]) (by kernel_rfl) (by simp) (AllReadyIn.cons rfl (fun K hK => ?_) AllReadyIn.nil)
            go_simp
            refine hK _ _ ?_
            clear hK K
            refine wpAnyIn_done (by kernel_rfl) ?_ _
            exact pa_round HV.out H0.out H1.out HX.out HB.out HS.out HO1.out HB1.out HO3.out HG3.out HCur.out HLt.out
          · go_simp
            refine hK _ _ ?_
            clear hK K
            refine wpAnyIn_ready (rs := [0, 2]) (by kernel_rfl) (by simp) (AllReadyIn.cons rfl (fun K hK => ?_) (AllReadyIn.cons rfl (fun K hK => ?_) AllReadyIn.nil))
            · go_simp
              refine hK _ _ ?_
              clear hK K
              refine wpAnyIn_ready (rs := [2]) (by kernel_rfl) (by simp) (AllReadyIn.cons rfl (fun K hK => ?_) AllReadyIn.nil)
              go_simp
              refine ⟨trivial, ?_⟩
              refine (CallsIn.inRound l (callsIn_wide.2 (HP.out _ HMd.out))).mono ?_
              rintro e W1 ⟨rfl, hb1⟩
              refine hK _ _ ?_
              clear hK K
              have HB1 := hid hb1
              clear hb1
              have HV1 : Hid (Boxed W1 (w.heap.size + 2) 22 (.slice a (curP pre).length cap)) := hid ((HB1.out.block _ HV.out.lt).trans HV.out)
              have HO1 : Hid (POwn W1 (w.heap.size + 6) (.slice a (curP pre).length cap) (curP pre)) := hid (POwn.belowD HO.out HB1.out)
              have HSz : Hid (w.heap.size + 6 ≤ W1.heap.size) := hid (Nat.le_trans HS.out HB1.out.size)
              have c2 := HV1.out.cell
              have c2a := (HV1.out.alloc (.cells #[fq X1, fq X2] 36)).cell
              refine wpAnyIn_ready (rs := [3]) (by kernel_rfl) (by simp) (AllReadyIn.cons rfl (fun K hK => ?_) AllReadyIn.nil)
              go_simp
              refine hK _ _ ?_
              clear hK K
              refine wpAnyIn_ready (rs := [4]) (by kernel_rfl) (by simp) (AllReadyIn.cons rfl (fun K hK => ?_) AllReadyIn.nil)
              obtain ⟨v2, W3, hr, ho3, hg3⟩ := pappend_run HO1.out (X1, X2) (by have := HLt.out; omega) HSz.out
              obtain ⟨g2, cap2, rfl⟩ := own_some ho3
              refine stepIn_append hr rfl (.tmp 17) (.tmp 20) rfl rfl rfl rfl ?_
              refine hK _ _ ?_
              clear hK K hr
              have HO3 := hid ho3
              have HG3 := hid hg3
              have HV3 : Hid (Boxed W3 (w.heap.size + 2) 22 (.slice a (curP pre).length cap)) := hid ((HV1.out.alloc _).kept hg3 (HV1.out.not_row (by decide) HO1.out))
              clear ho3 hg3 c2 c2a
              have c2 := HV3.out.cell
              have f2 := HV3.out.frozen
              refine wpAnyIn_ready (rs := [5]) (by kernel_rfl) (by simp) (AllReadyIn.cons rfl (fun K hK => ?_) AllReadyIn.nil)
              go_simp
              refine hK _ _ ?_
              clear hK K
              refine wpAnyIn_done (by kernel_rfl) ?_ _
              exact pa_round HV.out H0.out H1.out HX.out HB.out HS.out HO1.out HB1.out HO3.out HG3.out HCur.out HLt.out
            · go_simp
              refine ⟨trivial, ?_⟩
              refine (CallsIn.inRound l (callsIn_wide.2 (HP.out _ HMd.out))).mono ?_
              rintro e W1 ⟨rfl, hb1⟩
              refine hK _ _ ?_
              clear hK K
              have HB1 := hid hb1
              clear hb1
              have HV1 : Hid (Boxed W1 (w.heap.size + 2) 22 (.slice a (curP pre).length cap)) := hid ((HB1.out.block _ HV.out.lt).trans HV.out)
              have HO1 : Hid (POwn W1 (w.heap.size + 6) (.slice a (curP pre).length cap) (curP pre)) := hid (POwn.belowD HO.out HB1.out)
              have HSz : Hid (w.heap.size + 6 ≤ W1.heap.size) := hid (Nat.le_trans HS.out HB1.out.size)
              have c2 := HV1.out.cell
              have c2a := (HV1.out.alloc (.cells #[fq X1, fq X2] 36)).cell
              refine wpAnyIn_ready (rs := [0, 3]) (by kernel_rfl) (by simp) (AllReadyIn.cons rfl (fun K hK => ?_) (AllReadyIn.cons rfl (fun K hK => ?_) AllReadyIn.nil))
              · go_simp
                refine hK _ _ ?_
                clear hK K
                refine wpAnyIn_ready (rs := [3]) (by kernel_rfl) (by simp) (AllReadyIn.cons rfl (fun K hK => ?_) AllReadyIn.nil)
                go_simp
                refine hK _ _ ?_
                clear hK K
                refine wpAnyIn_ready (rs := [4]) (by kernel_rfl) (by simp) (AllReadyIn.cons rfl (fun K hK => ?_) AllReadyIn.nil)
                obtain ⟨v2, W3, hr, ho3, hg3⟩ := pappend_run HO1.out (X1, X2) (by have := HLt.out; omega) HSz.out
                obtain ⟨g2, cap2, rfl⟩ := own_some ho3
                refine stepIn_append hr rfl (.tmp 17) (.tmp 20) rfl rfl rfl rfl ?_
                refine hK _ _ ?_
                clear hK K hr
                have HO3 := hid ho3
                have HG3 := hid hg3
                have HV3 : Hid (Boxed W3 (w.heap.size + 2) 22 (.slice a (curP pre).length cap)) := hid ((HV1.out.alloc _).kept hg3 (HV1.out.not_row (by decide) HO1.out))
                clear ho3 hg3 c2 c2a
                have c2 := HV3.out.cell
                have f2 := HV3.out.frozen
                refine wpAnyIn_ready (rs := [5]) (by kernel_rfl) (by simp) (AllReadyIn.cons rfl (fun K hK => ?_) AllReadyIn.nil)
                go_simp
                refine hK _ _ ?_
                clear hK K
                refine wpAnyIn_done (by kernel_rfl) ?_ _
                exact pa_round HV.out H0.out H1.out HX.out HB.out HS.out HO1.out HB1.out HO3.out HG3.out HCur.out HLt.out
              · go_simp
                refine hK _ _ ?_
                clear hK K
                refine wpAnyIn_ready (rs := [0]) (by kernel_rfl) (by simp) (AllReadyIn.cons rfl (fun K hK => ?_) AllReadyIn.nil)
                go_simp
                refine hK _ _ ?_
                clear hK K
                refine wpAnyIn_ready (rs := [4]) (by kernel_rfl) (by simp) (AllReadyIn.cons rfl (fun K hK => ?_) AllReadyIn.nil)
                obtain ⟨v2, W3, hr, ho3, hg3⟩ := pappend_run HO1.out (X1, X2) (by have := HLt.out; omega) HSz.out
                obtain ⟨g2, cap2, rfl⟩ := own_some ho3
                refine stepIn_append hr rfl (.tmp 17) (.tmp 20) rfl rfl rfl rfl ?_
                refine hK _ _ ?_
                clear hK K hr
                have HO3 := hid ho3
                have HG3 := hid hg3
                have HV3 : Hid (Boxed W3 (w.heap.size + 2) 22 (.slice a (curP pre).length cap)) := hid ((HV1.out.alloc _).kept hg3 (HV1.out.not_row (by decide) HO1.out))
                clear ho3 hg3 c2 c2a
                have c2 := HV3.out.cell
                have f2 := HV3.out.frozen
                refine wpAnyIn_ready (rs := [5]) (by kernel_rfl) (by simp) (AllReadyIn.cons rfl (fun K hK => ?_) AllReadyIn.nil)
                go_simp
                refine hK _ _ ?_
                clear hK K
                refine wpAnyIn_done (by kernel_rfl) ?_ _
                exact pa_round HV.out H0.out H1.out HX.out HB.out HS.out HO1.out HB1.out HO3.out HG3.out HCur.out HLt.out
        · have hc1 : ((((curP pre).length : Nat) : Int) == 256) = true := by rw [beq_iff_eq]; omega
          have hso : 256 < (some1 (pre ++ [x])).length := by rw [some1_snoc, if_neg hne, List.length_append]; simp; omega
          clear hlen hc
          gi_wp2
          have g0 := grownBy_setCell' W w.heap.size (.slice none 0 0)
          have g1 := grownBy_setCell' (W.setCell ⟨w.heap.size, 0, none⟩ (.slice none 0 0)) (w.heap.size + 1) (.int .i64 11)
          refine ⟨((KeepsOthers.setCell _ _ _).trans (KeepsOthers.setCell _ _ _)).from _, rfl, (H0.out.set _).kept g1 (by simp), (H1.out.kept g0 (by simp)).set _, hso, below_grown (below_grown HB.out g0 (fun r e => by cases e; omega)) g1 (fun r e => by cases e; omega)⟩
    case done =>
      rintro D W hD ⟨⟨v, hv, ho⟩, h0, h1', hn', hs, hb⟩ hK
      have hlen : (curP (splitR 38 s.data.toList)).length = (some1 (splitR 38 s.data.toList)).length := curP_len _
      have hp : parseR s.data.toList = (curP (splitR 38 s.data.toList), 0) := by unfold parseR; rw [if_neg (by rw [hn]; omega), if_neg (by omega)]
      clear hlen
      obtain ⟨a, cap, rfl, _⟩ := ho.row
      have c2 := hv.cell
      have c0 := h0.cell
      have c1 := h1'.cell
      have f0 := h0.frozen
      have f1 := h1'.frozen
      have HV := hid hv
      have HO := hid ho
      have H0 := hid h0
      have H1 := hid h1'
      have HK := hid hK
      have HB := hid hb
      clear hv ho h0 h1' hK hb
      gi_wp2
      have g0 := grownBy_setCell' W w.heap.size (.slice a (curP (splitR 38 s.data.toList)).length cap)
      have g1 := grownBy_setCell' (W.setCell ⟨w.heap.size, 0, none⟩ (.slice a (curP (splitR 38 s.data.toList)).length cap)) (w.heap.size + 1) (.int .i64 0)
      have hK2 := (KeepsOthers.setCell _ ⟨w.heap.size + 1, 0, none⟩ (.int .i64 0)).same D _ ((KeepsOthers.setCell _ ⟨w.heap.size, 0, none⟩ (.slice a (curP (splitR 38 s.data.toList)).length cap)).same D _ HK.out rfl) rfl
      refine pa_out rfl ((H0.out.set _).kept g1 (by simp)) ((H1.out.kept g0 (by simp)).set _) hK2 (by omega) (below_grown (below_grown HB.out g0 (fun r e => by cases e; omega)) g1 (fun r e => by cases e; omega)) ?_ hp rfl rfl
      exact POwn.row (ownsRow_putObj ((HO.out.kept g0 (fun r e => by cases e; omega)).kept g1 (fun r e => by cases e; omega)) _ hK2 rfl)
    case stop =>
      rintro D c pre W hD hpre ⟨rfl, h0, h1', hn', hb⟩ hK
      have hlen : (some1 pre).length ≤ (some1 (splitR 38 s.data.toList)).length := (hpre.sublist.filter _).length_le
      have hp : parseR s.data.toList = ([], 11) := by unfold parseR; rw [if_neg (by rw [hn]; omega), if_pos (by omega)]
      gi_wp2
      exact pa_out rfl h0 h1' hK (by omega) hb (PRow.nil _) hp rfl rfl
end Go.Proofs.YtilamfbpbgcnpaaDoor
