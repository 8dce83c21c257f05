/- Bytes by percent signs, as plain functions of lists; there and back. -/
import Derived.Laws.BitsAllLaws
namespace Go.Proofs.YtilamfbpbgcnpaaDoor
set_option linter.unusedVariables false
set_option maxRecDepth 20000
def isLow (c : Nat) : Bool := decide (c < 32) || decide (126 < c)
def one1 (l : List Nat) (c : Nat) : Bool := l.any (· == c)
def isQuery (c : Nat) : Bool := isLow c || one1 [32, 34, 35, 60, 62] c
def isPath (c : Nat) : Bool := isQuery c || one1 [63, 94, 96, 123, 125] c
def isUser (c : Nat) : Bool := isPath c || one1 [47, 58, 59, 61, 64, 91, 92, 93, 124] c
def isAlnum (c : Nat) : Bool := (decide (48 ≤ c) && decide (c ≤ 57)) || (decide (97 ≤ c) && decide (c ≤ 122)) || (decide (65 ≤ c) && decide (c ≤ 90))
/-- Is a byte in a set? -/
def inR (set : Int) (c : Nat) : Bool :=
  if set = 1 then isLow c
  else if set = 2 then isLow c || one1 [32, 34, 60, 62, 96] c
  else if set = 3 then isQuery c
  else if set = 4 then isQuery c || c == 39
  else if set = 5 then isPath c
  else if set = 6 then isUser c
  else if set = 7 then isUser c || one1 [36, 37, 38, 43, 44] c
  else if set = 8 then !isAlnum c && !one1 [42, 45, 46, 95] c
  else false
/-- A digit of sixteen, great. -/
def hexU (n : Nat) : Nat := if n < 10 then 48 + n else 55 + n
def hexV (c : Nat) : Option Nat := if 48 ≤ c ∧ c ≤ 57 then some (c - 48) else if 97 ≤ c ∧ c ≤ 102 then some (c - 87) else if 65 ≤ c ∧ c ≤ 70 then some (c - 55) else none
/-- One byte by a set. -/
def encP (set : Int) (c : UInt8) : List UInt8 :=
  if set = 8 ∧ c = 32 then [43] else if inR set c.toNat = true then [37, UInt8.ofNat (hexU (c.toNat / 16)), UInt8.ofNat (hexU (c.toNat % 16))] else [c]
def pctR (set : Int) (b : List UInt8) : List UInt8 := b.flatMap (encP set)
theorem pctR_nil (set : Int) : pctR set [] = [] := rfl
theorem pctR_cons (set : Int) (c : UInt8) (b : List UInt8) : pctR set (c :: b) = encP set c ++ pctR set b := rfl
theorem pctR_append (set : Int) (a b : List UInt8) : pctR set (a ++ b) = pctR set a ++ pctR set b := by simp [pctR]
/-- What two digits behind a percent sign tell. -/
def two (a b : UInt8) : Option UInt8 := match hexV a.toNat, hexV b.toNat with
  | some x, some y => some (UInt8.ofNat (x * 16 + y))
  | _, _ => none
def unF : Nat → List UInt8 → List UInt8
  | 0, l => l
  | f + 1, [] => []
  | f + 1, c :: r => if c = 37 then (match r with
      | a :: b :: r' => (match two a b with
        | some x => x :: unF f r'
        | none => c :: unF f r)
      | _ => c :: unF f r) else c :: unF f r
def unR (l : List UInt8) : List UInt8 := unF l.length l
theorem unF_more : ∀ (f : Nat) (l : List UInt8), l.length ≤ f → unF (f + 1) l = unF f l
  | 0, [], _ => rfl
  | f + 1, [], _ => rfl
  | f + 1, c :: r, h => by
    rw [List.length_cons] at h
    have ih := unF_more f r (by omega)
    conv => lhs; unfold unF
    conv => rhs; unfold unF
    split
    · split
      · rename_i a b r'
        rw [List.length_cons, List.length_cons] at h
        have ih2 := unF_more f r' (by omega)
        split
        · rw [ih2]
        · rw [ih]
      · rw [ih]
    · rw [ih]
theorem unF_le : ∀ (d f : Nat) (l : List UInt8), l.length ≤ f → unF (f + d) l = unF f l
  | 0, f, l, _ => rfl
  | d + 1, f, l, h => by
    rw [← Nat.add_assoc, unF_more _ l (by omega), unF_le d f l h]
theorem unR_at {f : Nat} {l : List UInt8} (h : l.length ≤ f) : unF f l = unR l := by
  obtain ⟨d, rfl⟩ := Nat.exists_eq_add_of_le h
  exact unF_le d l.length l (Nat.le_refl _)
theorem unR_nil : unR [] = [] := rfl
theorem unR_plain {c : UInt8} {r : List UInt8} (h : c ≠ 37) : unR (c :: r) = c :: unR r := by
  show unF (r.length + 1) (c :: r) = _
  unfold unF
  rw [if_neg h]
  rfl
theorem unR_two {a b : UInt8} {r : List UInt8} {x : UInt8} (h : two a b = some x) : unR (37 :: a :: b :: r) = x :: unR r := by
  show unF (r.length + 2 + 1) (37 :: a :: b :: r) = _
  unfold unF
  rw [if_pos rfl]
  simp only [h]
  rw [unR_at (by omega)]
theorem unR_not {a b : UInt8} {r : List UInt8} (h : two a b = none) : unR (37 :: a :: b :: r) = 37 :: unR (a :: b :: r) := by
  show unF (r.length + 2 + 1) (37 :: a :: b :: r) = _
  unfold unF
  rw [if_pos rfl]
  simp only [h]
  rw [unR_at (by simp)]
theorem unR_one (a : UInt8) : unR [37, a] = 37 :: unR [a] := rfl
theorem unR_last : unR [37] = [37] := rfl
theorem unR_len : ∀ (f : Nat) (l : List UInt8), l.length ≤ f → (unR l).length ≤ l.length
  | f, [], _ => by simp [unR_nil]
  | f + 1, c :: r, h => by
    rw [List.length_cons] at h
    by_cases hc : c = 37
    · subst hc
      match r, h with
      | [], _ => simp [unR_last]
      | [a], h => rw [unR_one]; have := unR_len f [a] (by simpa using h); simp at this ⊢; omega
      | a :: b :: r', h =>
        cases ht : two a b with
        | some x =>
          rw [unR_two ht]
          simp only [List.length_cons] at h ⊢
          have := unR_len f r' (by omega); omega
        | none =>
          rw [unR_not ht]
          have := unR_len f (a :: b :: r') (by simpa using h)
          simp only [List.length_cons] at this ⊢; omega
    · rw [unR_plain hc, List.length_cons, List.length_cons]
      have := unR_len f r (by omega); omega
  | 0, c :: r, h => by simp at h
theorem hex_back (n : Nat) (h : n < 16) : hexV (hexU n) = some n := by
  unfold hexU hexV
  split
  · rw [if_pos (by omega)]; congr 1; omega
  · rw [if_neg (by omega), if_neg (by omega), if_pos (by omega)]; congr 1; omega
theorem hexU_lt (n : Nat) (h : n < 16) : hexU n < 256 := by unfold hexU; split <;> omega
theorem u8_nat {n : Nat} (h : n < 256) : (UInt8.ofNat n).toNat = n := by simp; omega
theorem two_back (c : UInt8) : two (UInt8.ofNat (hexU (c.toNat / 16))) (UInt8.ofNat (hexU (c.toNat % 16))) = some c := by
  have hc := c.toNat_lt
  have h1 : c.toNat / 16 < 16 := by omega
  have h2 : c.toNat % 16 < 16 := Nat.mod_lt _ (by decide)
  unfold two
  rw [u8_nat (hexU_lt _ h1), u8_nat (hexU_lt _ h2), hex_back _ h1, hex_back _ h2]
  simp only
  rw [show c.toNat / 16 * 16 + c.toNat % 16 = c.toNat by omega]
  simp
/-- There and back, where the percent sign itself is told by its digits. -/
theorem un_enc {set : Int} (h8 : set ≠ 8) : ∀ (b : List UInt8), (∀ c ∈ b, c = 37 → inR set 37 = true) → unR (pctR set b) = b
  | [], _ => rfl
  | c :: b, h => by
    have ih := un_enc h8 b (fun x hx => h x (List.mem_cons_of_mem _ hx))
    rw [pctR_cons]
    unfold encP
    rw [if_neg (fun e => h8 e.1)]
    split
    · show unR (37 :: _ :: _ :: pctR set b) = _
      rw [unR_two (two_back c), ih]
    · rename_i hn
      have hc : c ≠ 37 := fun e => hn (by subst e; exact h 37 List.mem_cons_self rfl)
      show unR (c :: pctR set b) = _
      rw [unR_plain hc, ih]
theorem pctR_len (set : Int) (b : List UInt8) : b.length ≤ (pctR set b).length ∧ (pctR set b).length ≤ 3 * b.length := by
  induction b with
  | nil => simp [pctR]
  | cons c b ih =>
    rw [pctR_cons, List.length_append, List.length_cons]
    have : 1 ≤ (encP set c).length ∧ (encP set c).length ≤ 3 := by unfold encP; split; simp; split <;> simp
    omega
theorem in_7_37 : inR 7 37 = true := by decide
/-- The digits are in no set. -/
theorem digit_out : (List.range 16).all (fun n => (List.range 8).all fun s => !inR ((s : Int) + 1) (hexU n)) = true := by decide +kernel
theorem inR_other {set : Int} (h : set < 1 ∨ 8 < set) (c : Nat) : inR set c = false := by
  unfold inR
  rw [if_neg (by omega), if_neg (by omega), if_neg (by omega), if_neg (by omega), if_neg (by omega), if_neg (by omega), if_neg (by omega), if_neg (by omega)]
theorem hex_out (set : Int) (n : Nat) (h : n < 16) : inR set (hexU n) = false := by
  by_cases hs : set < 1 ∨ 8 < set
  · exact inR_other hs _
  · have h1 := List.all_eq_true.1 digit_out n (List.mem_range.2 h)
    have h2 := List.all_eq_true.1 h1 (set - 1).toNat (List.mem_range.2 (by omega))
    rw [show (((set - 1).toNat : Nat) : Int) + 1 = set by omega] at h2
    simpa using h2
theorem in_8_43 : inR 8 43 = true := by decide
/-- What is written is in no set, percent signs and the plus sign of Form apart. -/
theorem enc_out {set : Int} {b : List UInt8} : ∀ x ∈ pctR set b, inR set x.toNat = true → x = 37 ∨ (set = 8 ∧ x = 43) := by
  intro x hx hi
  unfold pctR at hx
  obtain ⟨c, _, hc⟩ := List.mem_flatMap.1 hx
  have hcl := c.toNat_lt
  unfold encP at hc
  split at hc
  · rename_i h8
    rw [List.mem_singleton.1 hc]
    exact .inr ⟨h8.1, rfl⟩
  · split at hc
    · have h1 : c.toNat / 16 < 16 := by omega
      have h2 : c.toNat % 16 < 16 := Nat.mod_lt _ (by decide)
      simp only [List.mem_cons, List.not_mem_nil, or_false] at hc
      rcases hc with rfl | rfl | rfl
      · exact .inl rfl
      · rw [u8_nat (hexU_lt _ h1), hex_out set _ h1] at hi; cases hi
      · rw [u8_nat (hexU_lt _ h2), hex_out set _ h2] at hi; cases hi
    · rename_i hn
      rw [List.mem_singleton.1 hc] at hi
      exact absurd hi hn
/-- The sets that hold one another. -/
theorem rise_all : (List.range 256).all (fun c => (!inR 1 c || inR 3 c) && (!inR 3 c || inR 5 c) && (!inR 5 c || inR 6 c) && (!inR 6 c || inR 7 c)) = true := by decide +kernel
theorem rise (c : UInt8) : (inR 1 c.toNat = true → inR 3 c.toNat = true) ∧ (inR 3 c.toNat = true → inR 5 c.toNat = true) ∧ (inR 5 c.toNat = true → inR 6 c.toNat = true) ∧ (inR 6 c.toNat = true → inR 7 c.toNat = true) := by
  have h := List.all_eq_true.1 rise_all c.toNat (List.mem_range.2 c.toNat_lt)
  simp only [Bool.and_eq_true, Bool.or_eq_true, Bool.not_eq_true'] at h
  obtain ⟨⟨⟨h1, h2⟩, h3⟩, h4⟩ := h
  refine ⟨fun g => ?_, fun g => ?_, fun g => ?_, fun g => ?_⟩
  · rcases h1 with h | h
    · rw [g] at h; cases h
    · exact h
  · rcases h2 with h | h
    · rw [g] at h; cases h
    · exact h
  · rcases h3 with h | h
    · rw [g] at h; cases h
    · exact h
  · rcases h4 with h | h
    · rw [g] at h; cases h
    · exact h
/-- Letters and digits are in no set; what is below 20 or above 7E is in each. -/
theorem plain_all : (List.range 256).all (fun c => (List.range 8).all fun s => (!isAlnum c || !inR ((s : Int) + 1) c) && (!isLow c || inR ((s : Int) + 1) c)) = true := by decide +kernel
theorem alnum_out {set : Int} {c : UInt8} (h : isAlnum c.toNat = true) : inR set c.toNat = false := by
  by_cases hs : set < 1 ∨ 8 < set
  · exact inR_other hs _
  · have h1 := List.all_eq_true.1 plain_all c.toNat (List.mem_range.2 c.toNat_lt)
    have h2 := List.all_eq_true.1 h1 (set - 1).toNat (List.mem_range.2 (by omega))
    rw [show (((set - 1).toNat : Nat) : Int) + 1 = set by omega, h] at h2
    simp at h2
    exact h2.1
theorem low_in {set : Int} {c : UInt8} (h1 : 1 ≤ set) (h8 : set ≤ 8) (h : isLow c.toNat = true) : inR set c.toNat = true := by
  have h1' := List.all_eq_true.1 plain_all c.toNat (List.mem_range.2 c.toNat_lt)
  have h2 := List.all_eq_true.1 h1' (set - 1).toNat (List.mem_range.2 (by omega))
  rw [show (((set - 1).toNat : Nat) : Int) + 1 = set by omega, h] at h2
  simp at h2
  exact h2.2
end Go.Proofs.YtilamfbpbgcnpaaDoor
