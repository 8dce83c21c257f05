/- Eight pieces as a text, plain: Parse6, Print6; there and back. -/
import Derived.Test.YtghhdccnocpobaaDoorIpB
namespace Go.Proofs.YtghhdccnocpobaaDoor
set_option linter.unusedVariables false
set_option maxRecDepth 20000
/-- At the first two colons; acc: what stands ahead. -/
def cutG : List UInt8 → List UInt8 → Option (List UInt8 × List UInt8)
  | acc, [] => none
  | acc, [c] => none
  | acc, c :: d :: r => if c = 58 ∧ d = 58 then some (acc, r) else cutG (acc ++ [c]) (d :: r)
/-- One of four decimal numbers. -/
def octR (q : List UInt8) : Option Nat :=
  if q = [] ∨ 3 < q.length ∨ digsR 10 q = false ∨ (1 < q.length ∧ q.head? = some 48) then none
  else if 255 < (numR q).getD 0 then none else some ((numR q).getD 0)
def octsR : List (List UInt8) → Option (List Nat)
  | [] => some []
  | q :: r => match octR q with
    | none => none
    | some n => (octsR r).map (n :: ·)
def pairR : List Nat → List Nat
  | [a, b, c, d] => [a * 256 + b, c * 256 + d]
  | _ => []
def fourR (p : List UInt8) : Option (List Nat) := if (splitR 46 p).length = 4 then (octsR (splitR 46 p)).map pairR else none
def goP (last : Bool) : List (List UInt8) → Option (List Nat)
  | [] => some []
  | p :: r => if last = true ∧ r = [] ∧ 1 < (splitR 46 p).length then fourR p
    else if p = [] ∨ 4 < p.length ∨ digsR 16 p = false then none
    else (goP last r).map (valX 16 p :: ·)
def piecesR (last : Bool) (l : List UInt8) : Option (List Nat) := if l = [] then some [] else goP last (splitR 58 l)
def z8 : List Nat := [0, 0, 0, 0, 0, 0, 0, 0]
def twoR (x y : Option (List Nat)) : List Nat × Nat := match x, y with
  | some a, some b => if a.length + b.length ≤ 7 then (a ++ List.replicate (8 - (a.length + b.length)) 0 ++ b, 0) else (z8, 4)
  | _, _ => (z8, 4)
def oneR (x : Option (List Nat)) : List Nat × Nat := match x with
  | some a => if a.length = 8 then (a, 0) else (z8, 4)
  | none => (z8, 4)
def parse6R (l : List UInt8) : List Nat × Nat :=
  if 4000 < l.length then (z8, 11)
  else match cutG [] l with
    | none => oneR (piecesR true l)
    | some (a, b) => twoR (piecesR false a) (piecesR true b)
/- How many 0 stand from a place on; the first longest run. -/
def runAt (p : List Nat) (i : Nat) : Nat := ((p.drop i).takeWhile (· == 0)).length
def bestG (p : List Nat) : Nat → Nat × Nat
  | 0 => (8, 1)
  | i + 1 => if (bestG p i).2 < runAt p i then (i, runAt p i) else bestG p i
def bestR (p : List Nat) : Nat × Nat := bestG p 8
def pcs (p : List Nat) : List (List UInt8) := p.map (digsOf 16)
def print6R (p : List Nat) : List UInt8 :=
  if (bestR p).1 = 8 then joinC 58 (pcs p)
  else joinC 58 (pcs (p.take (bestR p).1)) ++ 58 :: 58 :: joinC 58 (pcs (p.drop ((bestR p).1 + (bestR p).2)))
/- Cutting. -/
theorem cut_other {c : UInt8} (h : c ≠ 58) (acc t : List UInt8) : cutG acc (c :: t) = cutG (acc ++ [c]) t := by
  match t with
  | [] => rfl
  | d :: r =>
    show (if c = 58 ∧ d = 58 then some (acc, r) else cutG (acc ++ [c]) (d :: r)) = _
    rw [if_neg (fun e => h e.1)]
theorem cut_one {d : UInt8} (h : d ≠ 58) (acc t : List UInt8) : cutG acc (58 :: d :: t) = cutG (acc ++ [58]) (d :: t) := by
  show (if (58 : UInt8) = 58 ∧ d = 58 then some (acc, t) else cutG (acc ++ [58]) (d :: t)) = _
  rw [if_neg (fun e => h e.2)]
theorem cut_two (acc r : List UInt8) : cutG acc (58 :: 58 :: r) = some (acc, r) := by
  show (if (58 : UInt8) = 58 ∧ (58 : UInt8) = 58 then some (acc, r) else _) = _
  rw [if_pos ⟨rfl, rfl⟩]
theorem cut_past : ∀ (p acc t : List UInt8), (∀ c ∈ p, c ≠ 58) → cutG acc (p ++ t) = cutG (acc ++ p) t
  | [], acc, t, _ => by rw [List.nil_append, List.append_nil]
  | c :: p, acc, t, h => by
    rw [List.cons_append, cut_other (h c List.mem_cons_self), cut_past p _ t (fun x hx => h x (List.mem_cons_of_mem _ hx)), List.append_assoc]
    rfl
/-- Pieces that are none of them empty and have no colon. -/
def Fine (ps : List (List UInt8)) : Prop := ∀ p ∈ ps, p ≠ [] ∧ ∀ c ∈ p, c ≠ 58
theorem Fine.tail {p : List UInt8} {ps : List (List UInt8)} (h : Fine (p :: ps)) : Fine ps := fun x hx => h x (List.mem_cons_of_mem _ hx)
theorem join_head {q : List UInt8} {r : List (List UInt8)} (h : Fine (q :: r)) : ∃ d t, joinC 58 (q :: r) = d :: t ∧ d ≠ 58 := by
  obtain ⟨h1, h2⟩ := h q List.mem_cons_self
  match q, h1, h2 with
  | d :: q', _, h2 =>
    match r with
    | [] => exact ⟨d, q', rfl, h2 d List.mem_cons_self⟩
    | x :: r' => exact ⟨d, q' ++ 58 :: joinC 58 (x :: r'), rfl, h2 d List.mem_cons_self⟩
theorem cut_join : ∀ (ps : List (List UInt8)) (acc t : List UInt8), ps ≠ [] → Fine ps → cutG acc (joinC 58 ps ++ t) = cutG (acc ++ joinC 58 ps) t
  | [p], acc, t, _, h => cut_past p acc t (h p List.mem_cons_self).2
  | p :: q :: r, acc, t, _, h => by
    obtain ⟨d, u, e, hd⟩ := join_head h.tail
    have ih := cut_join (q :: r) (acc ++ p ++ [58]) t (by simp) h.tail
    rw [joinC_cons 58 p (by simp), List.append_assoc, cut_past p acc _ (h p List.mem_cons_self).2]
    rw [List.cons_append]
    rw [e, List.cons_append] at ih ⊢
    rw [cut_one hd, ih]
    simp
theorem cut_none {ps : List (List UInt8)} (h : Fine ps) : cutG [] (joinC 58 ps) = none := by
  match ps, h with
  | [], _ => rfl
  | p :: r, h =>
    have := cut_join (p :: r) [] [] (by simp) h
    rw [List.append_nil] at this
    rw [this]
    rfl
theorem cut_some {ps : List (List UInt8)} (h : Fine ps) (r : List UInt8) : cutG [] (joinC 58 ps ++ 58 :: 58 :: r) = some (joinC 58 ps, r) := by
  match ps, h with
  | [], _ => exact cut_two [] r
  | p :: q, h => rw [cut_join (p :: q) [] _ (by simp) h, List.nil_append, cut_two]
/- Pieces in digits of 16. -/
theorem pcs_fine {p : List Nat} (h : ∀ x ∈ p, x < 65536) : Fine (pcs p) := by
  intro q hq
  obtain ⟨x, hx, rfl⟩ := List.mem_map.1 hq
  have f := digsOf_facts (b := 16) (by decide) (by decide) (n := x) (by have := h x hx; omega)
  exact ⟨f.1, fun c hc => (f.2.2.2.2.2 c hc).2.1⟩
theorem pc_len {x : Nat} (h : x < 65536) : (digsOf 16 x).length ≤ 4 := digsOf_len (b := 16) (f := 3) (by decide) (by decide) (by decide) (by omega)
theorem goP_pcs (last : Bool) : ∀ (p : List Nat), (∀ x ∈ p, x < 65536) → goP last (pcs p) = some p
  | [], _ => rfl
  | x :: r, h => by
    have hx := h x List.mem_cons_self
    have f := digsOf_facts (b := 16) (by decide) (by decide) (n := x) (by omega)
    have hl := pc_len hx
    have ih := goP_pcs last r (fun y hy => h y (List.mem_cons_of_mem _ hy))
    show (if last = true ∧ pcs r = [] ∧ 1 < (splitR 46 (digsOf 16 x)).length then fourR (digsOf 16 x)
      else if digsOf 16 x = [] ∨ 4 < (digsOf 16 x).length ∨ digsR 16 (digsOf 16 x) = false then none
      else (goP last (pcs r)).map (valX 16 (digsOf 16 x) :: ·)) = _
    rw [if_neg, if_neg, ih, f.2.2.1]
    · rfl
    · rintro (e | e | e)
      · exact f.1 e
      · omega
      · rw [f.2.1] at e; cases e
    · rintro ⟨_, _, e⟩
      unfold splitR at e
      rw [splitG_free _ _ (fun c hc => (f.2.2.2.2.2 c hc).1)] at e
      simp at e
theorem join_ne {ps : List (List UInt8)} (h : Fine ps) (hne : ps ≠ []) : joinC 58 ps ≠ [] := by
  match ps, h, hne with
  | q :: r, h, _ =>
    obtain ⟨d, t, e, _⟩ := join_head h
    rw [e]
    simp
theorem pieces_pcs (last : Bool) {p : List Nat} (h : ∀ x ∈ p, x < 65536) : piecesR last (joinC 58 (pcs p)) = some p := by
  unfold piecesR
  match p, h with
  | [], _ => rfl
  | x :: r, h =>
    have hf := pcs_fine h
    rw [if_neg (join_ne hf (by simp [pcs])), split_join _ (by simp [pcs]) (fun p hp => (hf p hp).2), goP_pcs last _ h]
theorem pcs_len : ∀ (p : List Nat), (∀ x ∈ p, x < 65536) → (joinC 58 (pcs p)).length ≤ 5 * p.length
  | [], _ => Nat.le_refl _
  | [x], h => by
    have := pc_len (h x List.mem_cons_self)
    show (digsOf 16 x).length ≤ _
    simp
    omega
  | x :: y :: r, h => by
    have h1 := pc_len (h x List.mem_cons_self)
    have ih := pcs_len (y :: r) (fun z hz => h z (List.mem_cons_of_mem _ hz))
    show (digsOf 16 x ++ 58 :: joinC 58 (pcs (y :: r))).length ≤ _
    rw [List.length_append, List.length_cons, List.length_cons (a := x)]
    omega
/-- Eight pieces without any two colons. -/
theorem parse6_full {p : List Nat} (hl : p.length = 8) (h : ∀ x ∈ p, x < 65536) : parse6R (joinC 58 (pcs p)) = (p, 0) := by
  have := pcs_len p h
  unfold parse6R
  rw [if_neg (by omega), cut_none (pcs_fine h)]
  simp only [pieces_pcs true h, oneR]
  rw [if_pos hl]
/-- More than eight, or fewer. -/
theorem parse6_other {p : List Nat} (hl : p.length ≠ 8) (hm : p.length ≤ 100) (h : ∀ x ∈ p, x < 65536) : parse6R (joinC 58 (pcs p)) = (z8, 4) := by
  have := pcs_len p h
  unfold parse6R
  rw [if_neg (by omega), cut_none (pcs_fine h)]
  simp only [pieces_pcs true h, oneR]
  rw [if_neg hl]
/-- Two colons in place of zeros. -/
theorem parse6_cut {a b : List Nat} (hl : a.length + b.length ≤ 7) (ha : ∀ x ∈ a, x < 65536) (hb : ∀ x ∈ b, x < 65536) :
    parse6R (joinC 58 (pcs a) ++ 58 :: 58 :: joinC 58 (pcs b)) = (a ++ List.replicate (8 - (a.length + b.length)) 0 ++ b, 0) := by
  have h1 := pcs_len a ha
  have h2 := pcs_len b hb
  unfold parse6R
  rw [if_neg (by rw [List.length_append, List.length_cons, List.length_cons]; omega), cut_some (pcs_fine ha)]
  simp only [pieces_pcs _ ha, pieces_pcs _ hb, twoR]
  rw [if_pos hl]
theorem goP_empty (last : Bool) : ∀ (ps : List (List UInt8)), [] ∈ ps → goP last ps = none
  | p :: r, h => by
    show (if last = true ∧ r = [] ∧ 1 < (splitR 46 p).length then fourR p
      else if p = [] ∨ 4 < p.length ∨ digsR 16 p = false then none
      else (goP last r).map (valX 16 p :: ·)) = none
    by_cases hp : p = []
    · subst hp
      rw [if_neg, if_pos (.inl rfl)]
      rintro ⟨_, _, e⟩
      exact absurd e (by decide)
    · have hr : [] ∈ r := by
        rcases List.mem_cons.1 h with e | e
        · exact absurd e.symm hp
        · exact e
      rw [if_neg]
      · split
        · rfl
        · rw [goP_empty last r hr]; rfl
      · rintro ⟨_, e, _⟩
        rw [e] at hr
        cases hr
/-- Two colons twice. -/
theorem parse6_twice {a : List Nat} (hl : a.length ≤ 100) (ha : ∀ x ∈ a, x < 65536) : parse6R (58 :: 58 :: (joinC 58 (pcs a) ++ [58, 58])) = (z8, 4) := by
  have h1 := pcs_len a ha
  have hs : [] ∈ splitR 58 (joinC 58 (pcs a) ++ [58, 58]) := by
    match a, ha with
    | [], _ => decide
    | x :: r, ha =>
      have hf := pcs_fine ha
      have e : joinC 58 (pcs (x :: r)) ++ [58, 58] = joinC 58 (pcs (x :: r) ++ [[], []]) := by
        rw [show pcs (x :: r) ++ [[], []] = (pcs (x :: r) ++ [[]]) ++ [[]] by simp, joinC_snoc 58 _ [] (by simp), joinC_snoc 58 _ [] (by simp [pcs])]
        simp
      rw [e, split_join _ (by simp) ?_]
      · simp
      · intro p hp c hc
        rcases List.mem_append.1 hp with hp | hp
        · exact (hf p hp).2 c hc
        · simp at hp
          rw [hp] at hc
          cases hc
  have hp : piecesR true (joinC 58 (pcs a) ++ [58, 58]) = none := by
    unfold piecesR
    rw [if_neg (by simp), goP_empty true _ hs]
  unfold parse6R
  rw [if_neg (by simp; omega), cut_two]
  simp only [hp, twoR]
  split
  · rename_i h; cases h
  · rfl
/- The first longest run. -/
theorem run_zero (p : List Nat) (i : Nat) : ∀ j, j < runAt p i → p[i + j]? = some 0 := by
  intro j hj
  unfold runAt at hj
  have h1 : ((p.drop i).takeWhile (· == 0))[j]? = some (((p.drop i).takeWhile (· == 0))[j]) := List.getElem?_eq_getElem hj
  have h2 := List.all_eq_true.1 (List.all_takeWhile (p := (· == 0)) (l := p.drop i)) _ (List.getElem_mem hj)
  have h3 : ((p.drop i).takeWhile (· == 0))[j] = 0 := by simpa using h2
  have h4 : (p.drop i)[j]? = some 0 := by
    have hpre := List.takeWhile_prefix (p := (· == 0)) (l := p.drop i)
    obtain ⟨t, ht⟩ := hpre
    rw [← ht, List.getElem?_append_left hj, h1, h3]
  rw [List.getElem?_drop] at h4
  exact h4
theorem run_le (p : List Nat) (i : Nat) : runAt p i ≤ p.length - i := by
  unfold runAt
  have := (List.takeWhile_prefix (p := (· == 0)) (l := p.drop i)).length_le
  rw [List.length_drop] at this
  exact this
theorem best_facts (p : List Nat) : ∀ i, i ≤ 8 → (bestG p i = (8, 1)) ∨ ((bestG p i).1 < i ∧ 2 ≤ (bestG p i).2 ∧ (bestG p i).2 = runAt p (bestG p i).1)
  | 0, _ => .inl rfl
  | i + 1, h => by
    have ih := best_facts p i (by omega)
    have e : bestG p (i + 1) = if (bestG p i).2 < runAt p i then (i, runAt p i) else bestG p i := rfl
    rw [e]
    split
    · rename_i hlt
      right
      refine ⟨by show i < i + 1; omega, ?_, rfl⟩
      show 2 ≤ runAt p i
      rcases ih with ih | ih
      · rw [ih] at hlt; exact hlt
      · omega
    · rcases ih with ih | ⟨h1, h2, h3⟩
      · exact .inl ih
      · exact .inr ⟨by omega, h2, h3⟩
theorem best_at {p : List Nat} (hl : p.length = 8) : bestR p = (8, 1) ∨ ((bestR p).1 + (bestR p).2 ≤ 8 ∧ (bestR p).1 < 8 ∧ 2 ≤ (bestR p).2 ∧ ∀ j, (bestR p).1 ≤ j → j < (bestR p).1 + (bestR p).2 → p[j]? = some 0) := by
  rcases best_facts p 8 (Nat.le_refl _) with h | ⟨h1, h2, h3⟩
  · exact .inl h
  · right
    have hr := run_le p (bestG p 8).1
    refine ⟨by show (bestG p 8).1 + (bestG p 8).2 ≤ 8; omega, h1, h2, fun j hj1 hj2 => ?_⟩
    have hj1' : (bestG p 8).1 ≤ j := hj1
    have hj2' : j < (bestG p 8).1 + (bestG p 8).2 := hj2
    have := run_zero p (bestG p 8).1 (j - (bestG p 8).1) (by omega)
    rwa [show (bestG p 8).1 + (j - (bestG p 8).1) = j by omega] at this
theorem zeros_mid {p : List Nat} (hl : p.length = 8) {a n : Nat} (h : a + n ≤ 8) (hz : ∀ j, a ≤ j → j < a + n → p[j]? = some 0) : p.take a ++ List.replicate n 0 ++ p.drop (a + n) = p := by
  apply List.ext_getElem?
  intro j
  by_cases h1 : j < a
  · rw [List.append_assoc, List.getElem?_append_left (by rw [List.length_take]; omega), List.getElem?_take, if_pos h1]
  · rw [List.append_assoc, List.getElem?_append_right (by rw [List.length_take]; omega), List.length_take, Nat.min_eq_left (by omega)]
    by_cases h2 : j < a + n
    · rw [List.getElem?_append_left (by rw [List.length_replicate]; omega), List.getElem?_replicate, if_pos (by omega), hz j (by omega) h2]
    · rw [List.getElem?_append_right (by rw [List.length_replicate]; omega), List.length_replicate, List.getElem?_drop]
      congr 1
      omega
/-- There and back. -/
theorem back6 {p : List Nat} (hl : p.length = 8) (h : ∀ x ∈ p, x < 65536) : parse6R (print6R p) = (p, 0) := by
  unfold print6R
  rcases best_at hl with hb | ⟨h1, h2, h3, h4⟩
  · rw [hb, if_pos rfl]
    exact parse6_full hl h
  · rw [if_neg (by omega), parse6_cut]
    · rw [List.length_take, List.length_drop, Nat.min_eq_left (by omega), hl, show 8 - ((bestR p).1 + (8 - ((bestR p).1 + (bestR p).2))) = (bestR p).2 by omega, zeros_mid hl h1 h4]
    · rw [List.length_take, List.length_drop]; omega
    · intro x hx; exact h x (List.mem_of_mem_take hx)
    · intro x hx; exact h x (List.mem_of_mem_drop hx)
theorem print6_inj {p q : List Nat} (hp : p.length = 8) (hq : q.length = 8) (hpx : ∀ x ∈ p, x < 65536) (hqx : ∀ x ∈ q, x < 65536) (h : print6R p = print6R q) : p = q := by
  have h1 := back6 hp hpx
  rw [h, back6 hq hqx] at h1
  exact (congrArg Prod.fst h1).symm
theorem print6_len {p : List Nat} (hl : p.length = 8) (h : ∀ x ∈ p, x < 65536) : (print6R p).length ≤ 82 := by
  unfold print6R
  split
  · have := pcs_len p h; omega
  · have h1 := pcs_len (p.take (bestR p).1) (fun x hx => h x (List.mem_of_mem_take hx))
    have h2 := pcs_len (p.drop ((bestR p).1 + (bestR p).2)) (fun x hx => h x (List.mem_of_mem_drop hx))
    rw [List.length_append, List.length_cons, List.length_cons]
    rw [List.length_take] at h1
    rw [List.length_drop] at h2
    omega
/- What is read are eight numbers of two bytes. -/
theorem valX_lt {b : Nat} : ∀ (n : Nat) (l : List UInt8), l.length = n → digsR b l = true → valX b l < b ^ n
  | 0, l, h, _ => by rw [List.eq_nil_of_length_eq_zero h]; exact Nat.one_pos
  | n + 1, l, h, hd => by
    rcases List.eq_nil_or_concat l with h' | ⟨l', c, h'⟩
    · rw [h'] at h; simp at h
    · rw [List.concat_eq_append] at h'
      subst h'
      rw [List.length_append] at h
      unfold digsR at hd
      rw [List.all_append, Bool.and_eq_true] at hd
      have ih := valX_lt n l' (by simpa using h) hd.1
      have hc : dgv c < b := by
        have := hd.2
        simp only [List.all_cons, List.all_nil, Bool.and_true] at this
        unfold digB at this
        unfold dgv
        cases hv : hexV c.toNat with
        | none => rw [hv] at this; cases this
        | some d => rw [hv] at this; simpa using this
      rw [valX_snoc, Nat.pow_succ]
      have : (valX b l' + 1) * b ≤ b ^ n * b := Nat.mul_le_mul_right b ih
      rw [Nat.add_mul, Nat.one_mul] at this
      omega
theorem piece_lt {p : List UInt8} (hl : p.length ≤ 4) (hd : digsR 16 p = true) : valX 16 p < 65536 :=
  Nat.lt_of_lt_of_le (valX_lt _ p rfl hd) (Nat.le_trans (Nat.pow_le_pow_right (by decide) hl) (by decide))
theorem oct_lt {q : List UInt8} {n : Nat} (h : octR q = some n) : n ≤ 255 := by
  unfold octR at h
  split at h
  · cases h
  · split at h
    · cases h
    · injection h with h; omega
theorem octs_lt : ∀ {qs : List (List UInt8)} {ns : List Nat}, octsR qs = some ns → ns.length = qs.length ∧ ∀ x ∈ ns, x ≤ 255
  | [], ns, h => by
    have : some [] = some ns := h
    injection this with e
    subst e
    exact ⟨rfl, fun x hx => by cases hx⟩
  | q :: r, ns, h => by
    have h' : (match octR q with
      | none => none
      | some n => (octsR r).map (n :: ·)) = some ns := h
    cases hn : octR q with
    | none => rw [hn] at h'; cases h'
    | some n =>
      rw [hn] at h'
      obtain ⟨m, hm, rfl⟩ := Option.map_eq_some_iff.1 h'
      obtain ⟨i1, i2⟩ := octs_lt hm
      refine ⟨by rw [List.length_cons, List.length_cons, i1], fun x hx => ?_⟩
      rcases List.mem_cons.1 hx with rfl | hx
      · exact oct_lt hn
      · exact i2 x hx
theorem four_lt {p : List UInt8} {ns : List Nat} (h : fourR p = some ns) : ns.length = 2 ∧ ∀ x ∈ ns, x < 65536 := by
  unfold fourR at h
  split at h
  · rename_i h4
    obtain ⟨m, hm, rfl⟩ := Option.map_eq_some_iff.1 h
    obtain ⟨i1, i2⟩ := octs_lt hm
    rw [h4] at i1
    match m, i1, i2 with
    | [a, b, c, d], _, i2 =>
      have ha := i2 a (by simp)
      have hb := i2 b (by simp)
      have hc := i2 c (by simp)
      have hd := i2 d (by simp)
      refine ⟨rfl, fun x hx => ?_⟩
      simp [pairR] at hx
      rcases hx with rfl | rfl <;> omega
  · cases h
theorem goP_lt (last : Bool) : ∀ {ps : List (List UInt8)} {ns : List Nat}, goP last ps = some ns → (ns.length ≤ ps.length + 1) ∧ ∀ x ∈ ns, x < 65536
  | [], ns, h => by
    have : some [] = some ns := h
    injection this with e
    subst e
    exact ⟨Nat.zero_le _, fun x hx => by cases hx⟩
  | p :: r, ns, h => by
    have h' : (if last = true ∧ r = [] ∧ 1 < (splitR 46 p).length then fourR p
      else if p = [] ∨ 4 < p.length ∨ digsR 16 p = false then none
      else (goP last r).map (valX 16 p :: ·)) = some ns := h
    split at h'
    · obtain ⟨i1, i2⟩ := four_lt h'
      exact ⟨by rw [i1, List.length_cons]; omega, i2⟩
    · split at h'
      · cases h'
      · rename_i hn
        obtain ⟨m, hm, rfl⟩ := Option.map_eq_some_iff.1 h'
        obtain ⟨i1, i2⟩ := goP_lt last hm
        refine ⟨by rw [List.length_cons, List.length_cons]; omega, fun x hx => ?_⟩
        rcases List.mem_cons.1 hx with rfl | hx
        · refine piece_lt (Nat.le_of_not_lt fun e => hn (.inr (.inl e))) ?_
          cases hd : digsR 16 p with
          | true => rfl
          | false => exact absurd (.inr (.inr hd)) hn
        · exact i2 x hx
theorem pieces_lt {last : Bool} {l : List UInt8} {ns : List Nat} (h : piecesR last l = some ns) : ∀ x ∈ ns, x < 65536 := by
  unfold piecesR at h
  split at h
  · injection h with h
    subst h
    intro x hx
    cases hx
  · exact (goP_lt last h).2
theorem z8_fine : z8.length = 8 ∧ ∀ x ∈ z8, x < 65536 := ⟨rfl, by decide⟩
theorem parse6_fine (l : List UInt8) : (parse6R l).1.length = 8 ∧ (∀ x ∈ (parse6R l).1, x < 65536) ∧ ((parse6R l).2 = 0 ∨ (parse6R l).1 = z8) := by
  unfold parse6R
  split
  · exact ⟨z8_fine.1, z8_fine.2, .inr rfl⟩
  · cases cutG [] l with
    | none =>
      show (oneR (piecesR true l)).1.length = 8 ∧ (∀ x ∈ (oneR (piecesR true l)).1, x < 65536) ∧ ((oneR (piecesR true l)).2 = 0 ∨ (oneR (piecesR true l)).1 = z8)
      cases hp : piecesR true l with
      | none => exact ⟨z8_fine.1, z8_fine.2, .inr rfl⟩
      | some a =>
        unfold oneR
        simp only []
        split
        · rename_i h8
          exact ⟨h8, pieces_lt hp, .inl rfl⟩
        · exact ⟨z8_fine.1, z8_fine.2, .inr rfl⟩
    | some ab =>
      obtain ⟨a, b⟩ := ab
      show (twoR (piecesR false a) (piecesR true b)).1.length = 8 ∧ (∀ x ∈ (twoR (piecesR false a) (piecesR true b)).1, x < 65536) ∧ ((twoR (piecesR false a) (piecesR true b)).2 = 0 ∨ (twoR (piecesR false a) (piecesR true b)).1 = z8)
      cases hx : piecesR false a with
      | none => exact ⟨z8_fine.1, z8_fine.2, .inr rfl⟩
      | some x =>
        cases hy : piecesR true b with
        | none => exact ⟨z8_fine.1, z8_fine.2, .inr rfl⟩
        | some y =>
          unfold twoR
          simp only []
          split
          · rename_i h7
            refine ⟨by simp; omega, fun z hz => ?_, .inl rfl⟩
            rcases List.mem_append.1 hz with hz | hz
            · rcases List.mem_append.1 hz with hz | hz
              · exact pieces_lt hx z hz
              · rw [(List.mem_replicate.1 hz).2]; decide
            · exact pieces_lt hy z hz
          · exact ⟨z8_fine.1, z8_fine.2, .inr rfl⟩
theorem six_first1 : parse6R [58, 58, 49, 46, 50, 46, 51, 46, 52] = ([0, 0, 0, 0, 0, 0, 258, 772], 0) := by decide +kernel
theorem six_first2 : parse6R [49, 58, 58, 58, 50] = (z8, 4) := by decide +kernel
theorem six_first3 : print6R [1, 0, 0, 0, 0, 0, 0, 1] = [49, 58, 58, 49] := by decide +kernel
end Go.Proofs.YtghhdccnocpobaaDoor
