/- Four bytes as a text, plain: parts, Ends, Parse4, Print4; there and back; one number in many forms. -/
import Derived.Test.YtghhdccnocpobaaDoorIpA
namespace Go.Proofs.YtghhdccnocpobaaDoor
set_option linter.unusedVariables false
set_option maxRecDepth 20000
def partsR (l : List UInt8) : List (List UInt8) := if 1 < (splitR 46 l).length ∧ (splitR 46 l).getLast? = some [] then (splitR 46 l).dropLast else splitR 46 l
def lastR (l : List UInt8) : List UInt8 := (partsR l).getLast?.getD []
def endsR (l : List UInt8) : Bool := if (partsR l).length = 1 ∧ lastR l = [] then false else (!(lastR l).isEmpty && digsR 10 (lastR l)) || (hexR (lastR l) && digsR 16 ((lastR l).drop 2))
def numsR : List (List UInt8) → Option (List Nat)
  | [] => some []
  | p :: r => match numR p with
    | none => none
    | some n => (numsR r).map (n :: ·)
def sum4 : Nat → List Nat → Nat → Option Nat
  | i, [], acc => some acc
  | i, [x], acc => if x / 2 ^ (8 * (4 - i)) = 0 then some (acc + x) else none
  | i, x :: y :: r, acc => if 255 < x then none else sum4 (i + 1) (y :: r) (acc + x * 2 ^ (8 * (3 - i)))
def parse4R (l : List UInt8) : Nat × Nat :=
  if 4000 < l.length then (0, 11)
  else if 4 < (partsR l).length then (0, 4)
  else match numsR (partsR l) with
    | none => (0, 4)
    | some ns => match sum4 0 ns 0 with
      | none => (0, 1)
      | some x => (x, 0)
def print4R (n : Nat) : List UInt8 := joinC 46 [digsOf 10 (n / 16777216), digsOf 10 (n / 65536 % 256), digsOf 10 (n / 256 % 256), digsOf 10 (n % 256)]
theorem parts_ne (l : List UInt8) : partsR l ≠ [] := by
  unfold partsR
  split
  · rename_i h
    intro e
    have := congrArg List.length e
    rw [List.length_dropLast] at this
    simp at this
    omega
  · exact splitR_ne 46 l
theorem parts_of {l : List UInt8} {ps : List (List UInt8)} (h : splitR 46 l = ps) (hl : ps.length = 1 ∨ ps.getLast? ≠ some []) : partsR l = ps := by
  unfold partsR
  rw [h, if_neg]
  rintro ⟨h1, h2⟩
  rcases hl with h | h
  · omega
  · exact h h2
theorem parts_less {l : List UInt8} {ps : List (List UInt8)} (h : splitR 46 l = ps ++ [[]]) (hl : ps ≠ []) : partsR l = ps := by
  unfold partsR
  rw [h, if_pos, List.dropLast_concat]
  refine ⟨?_, by simp⟩
  rw [List.length_append]
  have : 0 < ps.length := List.length_pos_iff.2 hl
  simp
  omega
theorem numR_lt {l : List UInt8} {n : Nat} (h : numR l = some n) : n ≤ 1099511627776 := by
  unfold numR at h
  split at h
  · cases h
  · split at h
    · injection h with h; rw [← h]; exact valR_le _ _
    · cases h
theorem parse4_ok {l : List UInt8} {ns : List Nat} {x : Nat} (hl : l.length ≤ 4000) (hp : (partsR l).length ≤ 4) (hn : numsR (partsR l) = some ns) (hs : sum4 0 ns 0 = some x) : parse4R l = (x, 0) := by
  unfold parse4R
  rw [if_neg (by omega), if_neg (by omega), hn]
  simp only [hs]
theorem parse4_range {l : List UInt8} {ns : List Nat} (hl : l.length ≤ 4000) (hp : (partsR l).length ≤ 4) (hn : numsR (partsR l) = some ns) (hs : sum4 0 ns 0 = none) : parse4R l = (0, 1) := by
  unfold parse4R
  rw [if_neg (by omega), if_neg (by omega), hn]
  simp only [hs]
theorem nums_cons {p : List UInt8} {r : List (List UInt8)} {n : Nat} {ns : List Nat} (h : numR p = some n) (k : numsR r = some ns) : numsR (p :: r) = some (n :: ns) := by
  show (match numR p with
    | none => none
    | some n => (numsR r).map (n :: ·)) = _
  rw [h, k]
  rfl
theorem nums_len : ∀ {ps : List (List UInt8)} {ns : List Nat}, numsR ps = some ns → ns.length = ps.length
  | [], ns, h => by
    have : some [] = some ns := h
    injection this with e
    subst e
    rfl
  | p :: r, ns, h => by
    have h' : (match numR p with
      | none => none
      | some n => (numsR r).map (n :: ·)) = some ns := h
    cases hn : numR p with
    | none => rw [hn] at h'; cases h'
    | some n =>
      rw [hn] at h'
      obtain ⟨m, hm, rfl⟩ := Option.map_eq_some_iff.1 h'
      rw [List.length_cons, List.length_cons, nums_len hm]
theorem nums_none : ∀ {ps : List (List UInt8)} {p : List UInt8}, p ∈ ps → numR p = none → numsR ps = none
  | q :: r, p, hp, h => by
    show (match numR q with
      | none => none
      | some n => (numsR r).map (n :: ·)) = none
    cases hn : numR q with
    | none => rfl
    | some n =>
      rcases List.mem_cons.1 hp with e | hp
      · subst e; rw [h] at hn; cases hn
      · simp only [nums_none hp h]
        rfl
theorem pow_sub {i : Nat} (h : i ≤ 3) : 2 ^ (8 * (4 - i)) = 256 * 2 ^ (8 * (3 - i)) := by
  rw [show 8 * (4 - i) = 8 + 8 * (3 - i) by omega, Nat.pow_add]
theorem sum4_lt : ∀ (ns : List Nat) (i acc x : Nat), ns ≠ [] → i + ns.length ≤ 4 → acc + 2 ^ (8 * (4 - i)) ≤ 4294967296 → sum4 i ns acc = some x → x < 4294967296
  | [y], i, acc, x, _, hl, ha, h => by
    unfold sum4 at h
    split at h
    · rename_i h0
      injection h with h
      have hp : 0 < 2 ^ (8 * (4 - i)) := Nat.two_pow_pos _
      have : y < 2 ^ (8 * (4 - i)) := by
        rcases Nat.lt_or_ge y (2 ^ (8 * (4 - i))) with h' | h'
        · exact h'
        · have := Nat.div_pos h' hp
          omega
      omega
    · cases h
  | y :: z :: r, i, acc, x, _, hl, ha, h => by
    rw [List.length_cons, List.length_cons] at hl
    unfold sum4 at h
    split at h
    · cases h
    · rename_i h255
      refine sum4_lt (z :: r) (i + 1) _ x (by simp) (by rw [List.length_cons]; omega) ?_ h
      rw [pow_sub (show i ≤ 3 by omega)] at ha
      rw [show 4 - (i + 1) = 3 - i by omega]
      have : y * 2 ^ (8 * (3 - i)) ≤ 255 * 2 ^ (8 * (3 - i)) := Nat.mul_le_mul_right _ (by omega)
      omega
theorem parse4_lt (l : List UInt8) : (parse4R l).1 < 4294967296 ∧ ((parse4R l).2 = 0 ∨ (parse4R l).1 = 0) := by
  unfold parse4R
  split
  · exact ⟨by show 0 < _; decide, .inr rfl⟩
  · split
    · exact ⟨by show 0 < _; decide, .inr rfl⟩
    · rename_i h4
      cases hn : numsR (partsR l) with
      | none => exact ⟨by show 0 < _; decide, .inr rfl⟩
      | some ns =>
        cases hs : sum4 0 ns 0 with
        | none => simp only [hs]; exact ⟨by show 0 < _; decide, .inr trivial⟩
        | some x =>
          simp only [hs]
          have hl := nums_len hn
          refine ⟨sum4_lt ns 0 0 x (fun e => ?_) (by omega) (by decide) hs, .inl trivial⟩
          rw [e] at hl
          exact parts_ne l (List.eq_nil_of_length_eq_zero hl.symm)
theorem dec_free {n : Nat} (h : n < 18446744073709551616) : ∀ c ∈ digsOf 10 n, c ≠ 46 := fun c hc => ((digsOf_facts (by decide) (by decide) h).2.2.2.2.2 c hc).1
theorem print4_split {n : Nat} (h : n < 4294967296) : splitR 46 (print4R n) = [digsOf 10 (n / 16777216), digsOf 10 (n / 65536 % 256), digsOf 10 (n / 256 % 256), digsOf 10 (n % 256)] := by
  refine split_join _ (by simp) ?_
  intro p hp
  simp only [List.mem_cons, List.not_mem_nil, or_false] at hp
  rcases hp with rfl | rfl | rfl | rfl
  · exact dec_free (by omega)
  · exact dec_free (by omega)
  · exact dec_free (by omega)
  · exact dec_free (by omega)
theorem dec_len {x : Nat} (h : x < 256) : (digsOf 10 x).length ≤ 3 := digsOf_len (b := 10) (f := 2) (by decide) (by decide) (by decide) (by omega)
theorem print4_len {n : Nat} (h : n < 4294967296) : (print4R n).length ≤ 15 := by
  have h1 := dec_len (x := n / 16777216) (by omega)
  have h2 := dec_len (x := n / 65536 % 256) (by omega)
  have h3 := dec_len (x := n / 256 % 256) (by omega)
  have h4 := dec_len (x := n % 256) (by omega)
  unfold print4R
  simp only [joinC, List.length_append, List.length_cons]
  omega
theorem dec_ne {n : Nat} (h : n < 18446744073709551616) : digsOf 10 n ≠ [] := (digsOf_facts (by decide) (by decide) h).1
theorem print4_parts {n : Nat} (h : n < 4294967296) : partsR (print4R n) = [digsOf 10 (n / 16777216), digsOf 10 (n / 65536 % 256), digsOf 10 (n / 256 % 256), digsOf 10 (n % 256)] := by
  refine parts_of (print4_split h) (.inr ?_)
  intro e
  simp at e
  exact dec_ne (n := n % 256) (by omega) e
theorem four_nums {n : Nat} (h : n < 4294967296) : numsR [digsOf 10 (n / 16777216), digsOf 10 (n / 65536 % 256), digsOf 10 (n / 256 % 256), digsOf 10 (n % 256)] = some [n / 16777216, n / 65536 % 256, n / 256 % 256, n % 256] :=
  nums_cons (numR_ten (by omega)) (nums_cons (numR_ten (by omega)) (nums_cons (numR_ten (by omega)) (nums_cons (numR_ten (by omega)) rfl)))
theorem four_sum {n : Nat} (h : n < 4294967296) : sum4 0 [n / 16777216, n / 65536 % 256, n / 256 % 256, n % 256] 0 = some n := by
  simp only [sum4]
  rw [if_neg (by omega), if_neg (by omega), if_neg (by omega), if_pos (by omega)]
  congr 1
  omega
/-- There and back. -/
theorem back4 {n : Nat} (h : n < 4294967296) : parse4R (print4R n) = (n, 0) := by
  have hp := print4_parts h
  have hl := print4_len h
  exact parse4_ok (by omega) (by rw [hp]; simp) (by rw [hp]; exact four_nums h) (four_sum h)
theorem print4_ends {n : Nat} (h : n < 4294967296) : endsR (print4R n) = true := by
  have hlast : lastR (print4R n) = digsOf 10 (n % 256) := by
    unfold lastR
    rw [print4_parts h]
    rfl
  have f := digsOf_facts (b := 10) (by decide) (by decide) (n := n % 256) (by omega)
  unfold endsR
  rw [if_neg, hlast, f.2.1]
  · cases hd : digsOf 10 (n % 256) with
    | nil => exact absurd hd f.1
    | cons x r => rfl
  · rintro ⟨h1, _⟩
    rw [print4_parts h] at h1
    cases h1
/- One number in many forms. -/
theorem one_parts {l : List UInt8} (h : ∀ c ∈ l, c ≠ 46) : partsR l = [l] := by
  refine parts_of (ps := [l]) ?_ (.inl rfl)
  unfold splitR
  rw [splitG_free l [] h]
  rfl
theorem one_sum {n : Nat} (h : n < 4294967296) : sum4 0 [n] 0 = some n := by
  unfold sum4
  rw [if_pos (by omega)]
  congr 1
  omega
theorem one_form {l : List UInt8} {n : Nat} (hl : l.length ≤ 4000) (hf : ∀ c ∈ l, c ≠ 46) (hn : numR l = some n) (h : n < 4294967296) : parse4R l = (n, 0) := by
  have hp := one_parts hf
  exact parse4_ok hl (by rw [hp]; simp) (by rw [hp]; exact nums_cons hn rfl) (one_sum h)
theorem form_ten {n : Nat} (h : n < 4294967296) : parse4R (digsOf 10 n) = (n, 0) := by
  have f := digsOf_facts (b := 10) (by decide) (by decide) (n := n) (by omega)
  exact one_form (by omega) (dec_free (by omega)) (numR_ten (by omega)) h
theorem form_hex {n : Nat} (h : n < 4294967296) : parse4R (48 :: 120 :: digsOf 16 n) = (n, 0) := by
  have f := digsOf_facts (b := 16) (by decide) (by decide) (n := n) (by omega)
  refine one_form (by rw [List.length_cons, List.length_cons]; omega) (fun c hc => ?_) (numR_hex (by omega)) h
  rcases List.mem_cons.1 hc with rfl | hc
  · decide
  · rcases List.mem_cons.1 hc with rfl | hc
    · decide
    · exact (f.2.2.2.2.2 c hc).1
theorem form_oct {n : Nat} (h : n < 4294967296) : parse4R (48 :: digsOf 8 n) = (n, 0) := by
  have f := digsOf_facts (b := 8) (by decide) (by decide) (n := n) (by omega)
  refine one_form (by rw [List.length_cons]; omega) (fun c hc => ?_) (numR_oct (by omega)) h
  rcases List.mem_cons.1 hc with rfl | hc
  · decide
  · exact (f.2.2.2.2.2 c hc).1
theorem splitG_join_end {sep : UInt8} : ∀ (ps : List (List UInt8)), ps ≠ [] → (∀ p ∈ ps, ∀ c ∈ p, c ≠ sep) → splitR sep (joinC sep ps ++ [sep]) = ps ++ [[]] := by
  intro ps hne h
  have : joinC sep ps ++ [sep] = joinC sep (ps ++ [[]]) := by rw [joinC_snoc sep ps [] hne]
  rw [this]
  refine split_join _ (by simp) ?_
  intro p hp c hc
  rcases List.mem_append.1 hp with hp | hp
  · exact h p hp c hc
  · rw [List.mem_singleton.1 hp] at hc; cases hc
theorem form_end {n : Nat} (h : n < 4294967296) : parse4R (print4R n ++ [46]) = (n, 0) := by
  have hl := print4_len h
  have hp : partsR (print4R n ++ [46]) = [digsOf 10 (n / 16777216), digsOf 10 (n / 65536 % 256), digsOf 10 (n / 256 % 256), digsOf 10 (n % 256)] := by
    refine parts_less ?_ (by simp)
    refine splitG_join_end _ (by simp) ?_
    intro p hp
    simp only [List.mem_cons, List.not_mem_nil, or_false] at hp
    rcases hp with rfl | rfl | rfl | rfl
    · exact dec_free (by omega)
    · exact dec_free (by omega)
    · exact dec_free (by omega)
    · exact dec_free (by omega)
  exact parse4_ok (by rw [List.length_append]; simp; omega) (by rw [hp]; simp) (by rw [hp]; exact four_nums h) (four_sum h)
theorem form_great {n : Nat} (h : n < 4294967296) : parse4R ([50, 53, 54, 46] ++ digsOf 10 n) = (0, 1) := by
  have f := digsOf_facts (b := 10) (by decide) (by decide) (n := n) (by omega)
  have hp : partsR ([50, 53, 54, 46] ++ digsOf 10 n) = [[50, 53, 54], digsOf 10 n] := by
    refine parts_of ?_ (.inr ?_)
    · have := split_join (sep := 46) [[50, 53, 54], digsOf 10 n] (by simp) ?_
      · exact this
      · intro p hp
        simp only [List.mem_cons, List.not_mem_nil, or_false] at hp
        rcases hp with rfl | rfl
        · decide
        · exact dec_free (by omega)
    · intro e
      simp at e
      exact f.1 e
  refine parse4_range (ns := [256, n]) (by rw [List.length_append]; simp; omega) (by rw [hp]; simp) ?_ rfl
  rw [hp]
  exact nums_cons (by decide +kernel) (nums_cons (numR_ten (by omega)) rfl)
theorem form_limit : parse4R [52, 50, 57, 52, 57, 54, 55, 50, 57, 54] = (0, 1) := by decide +kernel
theorem form_five : parse4R [49, 46, 50, 46, 51, 46, 52, 46, 53] = (0, 4) := by decide +kernel
theorem form_first : parse4R [48, 120, 55, 102, 46, 49] = (2130706433, 0) := by decide +kernel
end Go.Proofs.YtghhdccnocpobaaDoor
