/- slices.Insert of one sign: into a slice of the call's own. -/
import Derived.Test.YtpjajiilgojbgaaPunyC
import Derived.Test.YtpjajiilgojbgaaPunyIns
import Derived.Lib.LazyBuf
namespace Go.Proofs.Ytpjajiilgojbgaa
open Go.RowKit Go.Shelf
set_option linter.unusedVariables false
set_option linter.unusedSimpArgs false
def ins (l : List Nat) (i x : Nat) : List Nat := l.take i ++ x :: l.drop i
theorem ins_len (l : List Nat) (i x : Nat) (h : i ≤ l.length) : (ins l i x).length = l.length + 1 := by simp [ins]; omega
theorem ins_at (l : List Nat) (i x j : Nat) (h : i ≤ l.length) : (ins l i x)[j]? = if j < i then l[j]? else if j = i then some x else l[j - 1]? := by
  unfold ins
  rw [List.getElem?_append]
  rw [List.length_take, Nat.min_eq_left h]
  split
  · rw [List.getElem?_take_of_lt (by assumption)]
  · split
    · rename_i h2; subst h2; simp
    · rw [List.getElem?_cons, if_neg (by omega), List.getElem?_drop]; congr 1; omega
/-- A block that holds the list is a slice of the call's own. -/
theorem own_of_rowIs {w : World} {g cap base : Nat} {f : Nat → Value} {l : List Nat} (h : w.rowIs g 3 cap f) (hl : l.length ≤ cap) (hm : cap ≤ maxLen) (hb : base ≤ g) (hf : ∀ j c, l[j]? = some c → f j = fn c) : NOwn w base (.slice (some ⟨g, 0, none⟩) l.length cap) l := by
  obtain ⟨c, hc, hs, hg⟩ := h
  refine ⟨by simp, .inr ⟨g, cap, c, rfl, hb, hc, hl, hm, by omega, ?_⟩⟩
  apply List.ext_getElem?
  intro j
  rw [List.getElem?_take, List.getElem?_map]
  by_cases hj : j < l.length * 1
  · rw [if_pos hj, Array.getElem?_toList, hg j (by omega), List.getElem?_eq_getElem (by omega)]
    simp only [Option.map_some]
    rw [hf j l[j] (List.getElem?_eq_getElem (by omega))]
  · rw [if_neg hj, List.getElem?_eq_none (by omega)]; rfl
theorem rowIs_of_own {w : World} {g n cap base : Nat} {l : List Nat} (h : NOwn w base (.slice (some ⟨g, 0, none⟩) n cap) l) : ∃ f, w.rowIs g 3 cap f ∧ n = l.length ∧ l.length ≤ cap ∧ cap ≤ maxLen ∧ base ≤ g ∧ ∀ j c, l[j]? = some c → f j = fn c := by
  rcases h.2 with ⟨he, _⟩ | ⟨g', cap', cur, he, hb, hg, hnc, hcm, hs, ht⟩
  · cases he
  · injection he with e1 e2 e3
    injection e1 with e1
    injection e1 with e1
    subst e1 e2 e3
    refine ⟨fun j => cur[j]?.getD default, ⟨cur, hg, by omega, fun i hi => by simp [Array.getElem?_eq_getElem (show i < cur.size by omega)]⟩, rfl, hnc, hcm, hb, fun j c hj => ?_⟩
    have hjl : j < l.length := by
      rcases Nat.lt_or_ge j l.length with h' | h'
      · exact h'
      · rw [List.getElem?_eq_none h'] at hj; cases hj
    have h2 := congrArg (fun z => z[j]?) ht
    simp only [List.getElem?_take, List.getElem?_map, hj] at h2
    rw [if_pos (by omega), Array.getElem?_toList] at h2
    show cur[j]?.getD default = fn c
    rw [h2]; rfl
theorem one_cell {vs : List Nat} : ∀ v ∈ vs.map fn, v.oneCell' = true := by
  intro v hv
  obtain ⟨c, _, rfl⟩ := List.mem_map.1 hv
  rfl
theorem at_map {l : List Nat} {j : Nat} {v : Value} (h : (l.map fn)[j]? = some v) : ∃ c, l[j]? = some c ∧ v = fn c := by
  rw [List.getElem?_map] at h
  cases hc : l[j]? with
  | none => rw [hc] at h; cases h
  | some c => rw [hc] at h; injection h with h; exact ⟨c, rfl, h.symm⟩
/-- The four roads' ends, told as functions of the place. -/
theorem ins_fun {l : List Nat} {i x : Nat} (hi : i ≤ l.length) {f : Nat → Value} (h1 : ∀ j c, j < i → l[j]? = some c → f j = fn c) (h2 : f i = fn x) (h3 : ∀ j c, i < j → l[j - 1]? = some c → f j = fn c) : ∀ j c, (ins l i x)[j]? = some c → f j = fn c := by
  intro j c hj
  rw [ins_at l i x j hi] at hj
  split at hj
  · exact h1 j c (by assumption) hj
  · split at hj
    · rename_i h; subst h; injection hj with hj; rw [h2, hj]
    · exact h3 j c (by omega) hj
set_option maxHeartbeats 1000000 in
theorem insert_calls (v : Value) (l : List Nat) (i x : Nat) (w : World) (base : Nat) (ho : NOwn w base v l) (hb : base ≤ w.heap.size) (hl : l.length ≤ 1000) (hi : i ≤ l.length) :
    Calls Try.prog 29 #[v, .int .i64 (i : Int), .slice (some ⟨w.heap.size, 0, none⟩) 1 1] (w.alloc (.cells #[.int .i64 (x : Int)] 3)) fun e w' => (∃ v', e = .returned v' ∧ NOwn w' base v' (ins l i x)) ∧ Below base w w' := by
  have hx : (w.alloc (.cells #[.int .i64 (x : Int)] 3)).rowIs w.heap.size 3 1 (fun _ => fn x) := World.rowIs_alloc w #[.int .i64 (x : Int)] 3 (fun _ => fn x) (by intro j hj; simp at hj; subst hj; rfl)
  have hbw : Below base w (w.alloc (.cells #[.int .i64 (x : Int)] 3)) := (Below.refl _ _).alloc hb _
  have hsz : (w.alloc (.cells #[.int .i64 (x : Int)] 3)).heap.size = w.heap.size + 1 := by simp
  have ho1 : NOwn (w.alloc (.cells #[.int .i64 (x : Int)] 3)) base v l := ho.alloc _
  have hlt : ∀ g, v.ownBlock = some g → g < w.heap.size := fun g hg => (World.ownsRow.lt ho g hg).2
  generalize w.alloc (.cells #[.int .i64 (x : Int)] 3) = w1 at *
  have hvs : ∀ j v, ([x].map fn)[j]? = some v → w1.cell? ⟨w.heap.size, 0 + j, none⟩ = some v := by
    intro j v hj
    obtain ⟨c, hc, rfl⟩ := at_map hj
    have : j = 0 := by
      cases j with
      | zero => rfl
      | succ j => simp at hc
    subst this
    simp at hc
    subst hc
    exact hx.cell (by decide)
  have hil := ins_len l i x hi
  have hgrow : ∀ (a : Option Addr) (n cap : Nat), v = .slice a n cap → n = l.length → l.length ≤ cap → cap ≤ maxLen → (a = none → l.length = 0) → (∀ b, a = some b → b.spot = none ∧ b.off = 0 ∧ ∀ j c, l[j]? = some c → w1.cell? ⟨b.block, j, none⟩ = some (fn c)) → cap < l.length + 1 →
      Calls Try.prog 29 #[v, .int .i64 (i : Int), .slice (some ⟨w.heap.size, 0, none⟩) 1 1] w1 fun e w' => (∃ v', e = .returned v' ∧ NOwn w' base v' (ins l i x)) ∧ Below base w w' := by
    intro a n cap hv hn hlc hcm hnil hcs hroom
    subst hv hn
    have hg1 := grownCap_ge w1 (l.length + 1) cap 3
    have hg2 := grownCap_le_maxLen w1 (l.length + 1) cap 3 (by unfold maxLen; omega)
    rcases Nat.lt_or_ge i l.length with h | h
    · cases a with
      | none => exact absurd (hnil rfl) (by omega)
      | some b =>
        obtain ⟨bb, bo, bs⟩ := b
        obtain ⟨e1, e2, hc⟩ := hcs _ rfl
        simp only at e1 e2 hc
        subst e1 e2
        have hC := Any2.slices_Insert_int_grow insLays bb 0 l.length cap i w.heap.size 0 1 1 (l.map fn) ([x].map fn) w1 h (by decide) hlc hroom (by omega) (by simp) (by simp)
          (fun j v hj => by obtain ⟨c, h1, rfl⟩ := at_map hj; rw [Nat.zero_add]; exact hc j c h1) hvs one_cell one_cell
        refine hC.mono ?_
        rintro e w' ⟨rfl, rfl⟩
        have hA := World.rowIs_alloc w1 (((l.map fn).take i).toArray ++ Builtin.zeroCells (Value.int .i64 0).cells (l.length + 1 - i) ++ Builtin.zeroCells (Value.int .i64 0).cells (grownCap w1 (l.length + 1) cap 3 - (l.length + 1))) 3
          (fun j => (((l.map fn).take i).toArray ++ Builtin.zeroCells (Value.int .i64 0).cells (l.length + 1 - i) ++ Builtin.zeroCells (Value.int .i64 0).cells (grownCap w1 (l.length + 1) cap 3 - (l.length + 1)))[j]?.getD default) (fun j hj => by rw [Array.getElem?_eq_getElem hj]; rfl)
        have hsA : (((l.map fn).take i).toArray ++ Builtin.zeroCells (Value.int .i64 0).cells (l.length + 1 - i) ++ Builtin.zeroCells (Value.int .i64 0).cells (grownCap w1 (l.length + 1) cap 3 - (l.length + 1))).size = grownCap w1 (l.length + 1) cap 3 := by
          rw [Array.size_append, Array.size_append, size_zeroCells, size_zeroCells]
          simp [Value.cells]
          omega
        rw [hsA] at hA
        have hS := rowIs_setCells ((l.map fn).drop i) (i + 1) _ _ (rowIs_setCells ([x].map fn) i _ _ hA.drew).drew
        refine ⟨⟨_, rfl, ?_⟩, ?_⟩
        · have hO := own_of_rowIs (base := base) (l := ins l i x) hS (by omega) hg2 (by omega) (ins_fun hi ?_ ?_ ?_)
          · rw [hil] at hO; exact hO
          · intro j c hj hc
            have hjl : j < l.length := by omega
            rw [if_neg (by omega), if_neg (by simp; omega)]
            rw [Array.getElem?_append_left (by simp; omega), Array.getElem?_append_left (by simp; omega)]
            simp [List.getElem?_take, hj, hc]
          · rw [if_neg (by omega), if_pos (by simp)]
            simp
          · intro j c hj hc
            have hjl : j - 1 < l.length := by
              rcases Nat.lt_or_ge (j - 1) l.length with h' | h'
              · exact h'
              · rw [List.getElem?_eq_none h'] at hc; cases hc
            rw [if_pos (by simp; omega), List.getElem?_drop, show i + (j - (i + 1)) = j - 1 by omega, List.getElem?_map, hc]
            rfl
        · exact below_setCells (by omega) _ _ _ (below_setCells (by omega) _ _ _ ((hbw.alloc (by omega) _).drew)).drew
    · have hie : i = l.length := by omega
      subst hie
      have hC := Any2.slices_Insert_int_end_grow insLays a l.length cap w.heap.size 0 1 1 (l.map fn) ([x].map fn) w1 (by decide) hlc hroom (by omega) (by simp) (by simp) hnil
        (fun b hb j v hj => by
          obtain ⟨c, h1, rfl⟩ := at_map hj
          obtain ⟨bb, bo, bs⟩ := b
          obtain ⟨e1, e2, hc⟩ := hcs _ hb
          simp only at e1 e2 hc
          subst e1 e2
          rw [addr_add, Nat.zero_add]; exact hc j c h1) hvs one_cell
      refine hC.mono ?_
      rintro e w' ⟨rfl, rfl⟩
      have hA := World.rowIs_alloc w1 ((l.map fn ++ [x].map fn).toArray ++ Builtin.zeroCells (Value.int .i64 0).cells (grownCap w1 (l.length + 1) cap 3 - (l.length + 1))) 3
        (fun j => ((l.map fn ++ [x].map fn).toArray ++ Builtin.zeroCells (Value.int .i64 0).cells (grownCap w1 (l.length + 1) cap 3 - (l.length + 1)))[j]?.getD default) (fun j hj => by rw [Array.getElem?_eq_getElem hj]; rfl)
      have hsA : ((l.map fn ++ [x].map fn).toArray ++ Builtin.zeroCells (Value.int .i64 0).cells (grownCap w1 (l.length + 1) cap 3 - (l.length + 1))).size = grownCap w1 (l.length + 1) cap 3 := by
        rw [Array.size_append, size_zeroCells]
        simp [Value.cells]
        omega
      rw [hsA] at hA
      refine ⟨⟨_, rfl, ?_⟩, hbw.drew.alloc (by show base ≤ w1.heap.size; omega) _⟩
      have hO := own_of_rowIs (base := base) (l := ins l l.length x) hA (by omega) hg2 (by omega) (ins_fun hi ?_ ?_ ?_)
      · rw [hil] at hO; exact hO
      · intro j c hj hc
        rw [Array.getElem?_append_left (by simp; omega)]
        rw [List.getElem?_eq_getElem hj] at hc
        injection hc with hc
        simp [List.getElem?_append, hj, hc]
      · rw [Array.getElem?_append_left (by simp)]
        simp
      · intro j c hj hc
        exfalso
        rw [List.getElem?_eq_none (by omega)] at hc; cases hc
  rcases ho.2 with ⟨rfl, hn⟩ | ⟨g, cap, cur, rfl, hbg, hg, hnc, hcm, hcs, htk⟩
  · exact hgrow none 0 0 rfl (by omega) (by omega) (by unfold maxLen; omega) (fun _ => by omega) (fun b hb => by cases hb) (by omega)
  · obtain ⟨f, hf, _, hlc, hcm', hbg', hfl⟩ := rowIs_of_own ho1
    have hgw : g < w.heap.size := hlt g rfl
    have hcell : ∀ j c, l[j]? = some c → w1.cell? ⟨g, j, none⟩ = some (fn c) := by
      intro j c hj
      have hjl : j < l.length := by
        rcases Nat.lt_or_ge j l.length with h' | h'
        · exact h'
        · rw [List.getElem?_eq_none h'] at hj; cases hj
      rw [hf.cell (by omega), hfl j c hj]
    by_cases hroom : cap < l.length + 1
    · exact hgrow (some ⟨g, 0, none⟩) l.length cap rfl rfl hlc hcm' (fun h => by cases h) (fun b hb => by injection hb with hb; subst hb; exact ⟨rfl, rfl, hcell⟩) hroom
    · rcases Nat.lt_or_ge i l.length with h | h
      · have hC := Any2.slices_Insert_int_shift insLays g 0 l.length cap i w.heap.size 0 1 1 (l.map fn) ([x].map fn) w1 h (by decide) (by omega) (by unfold maxLen at hcm; omega) (by omega) (by simp) (by simp)
          (fun j v hj => by obtain ⟨c, h1, rfl⟩ := at_map hj; rw [Nat.zero_add]; exact hcell j c h1)
          (fun j hj => by rw [Nat.zero_add, hf.cell (by omega)]; rfl) (fun j hj => hf.frozen _) hvs one_cell one_cell 3 3 1 cap
          (by obtain ⟨c, hc, hs, _⟩ := hx; simp [World.shape?, hc, hs]) (by obtain ⟨c, hc, hs, _⟩ := hf; simp [World.shape?, hc, hs]) (by omega) (hx.frozen _) (hx.frozen _)
        refine hC.mono ?_
        rintro e w' ⟨rfl, rfl⟩
        have hS := rowIs_setCells ([x].map fn) (0 + i) _ _ (rowIs_setCells ((l.map fn).drop i) (0 + (i + 1)) _ _ hf.drew)
        refine ⟨⟨_, rfl, ?_⟩, below_setCells (by omega) _ _ _ (below_setCells (by omega) _ _ _ hbw.drew)⟩
        have hO := own_of_rowIs (base := base) (l := ins l i x) hS (by omega) hcm' hbg (ins_fun hi ?_ ?_ ?_)
        · rw [hil] at hO; exact hO
        · intro j c hj hc
          rw [if_neg (by simp; omega), if_neg (by omega)]
          exact hfl j c hc
        · rw [if_pos (by simp)]
          simp
        · intro j c hj hc
          have hjl : j - 1 < l.length := by
            rcases Nat.lt_or_ge (j - 1) l.length with h' | h'
            · exact h'
            · rw [List.getElem?_eq_none h'] at hc; cases hc
          rw [if_neg (by simp; omega), if_pos (by simp; omega), List.getElem?_drop, show i + (j - (0 + (i + 1))) = j - 1 by omega, List.getElem?_map, hc]
          rfl
      · have hie : i = l.length := by omega
        subst hie
        have hC := Any2.slices_Insert_int_end_room insLays g 0 l.length cap w.heap.size 0 1 1 ([x].map fn) w1 (by decide) (by omega) (by unfold maxLen at hcm; omega) (by simp)
          (fun j hj => by rw [hf.cell (by omega)]; rfl) (fun j hj => hf.frozen _) hvs one_cell
        refine hC.mono ?_
        rintro e w' ⟨rfl, rfl⟩
        have hS := rowIs_setCells ([x].map fn) (0 + l.length) _ _ hf
        refine ⟨⟨_, rfl, ?_⟩, below_setCells (by omega) _ _ _ hbw⟩
        have hO := own_of_rowIs (base := base) (l := ins l l.length x) hS (by omega) hcm' hbg (ins_fun hi ?_ ?_ ?_)
        · rw [hil] at hO; exact hO
        · intro j c hj hc
          rw [if_neg (by simp; omega)]
          exact hfl j c hc
        · rw [if_pos (by simp)]
          simp
        · intro j c hj hc
          exfalso
          rw [List.getElem?_eq_none (by omega)] at hc; cases hc
end Go.Proofs.Ytpjajiilgojbgaa
