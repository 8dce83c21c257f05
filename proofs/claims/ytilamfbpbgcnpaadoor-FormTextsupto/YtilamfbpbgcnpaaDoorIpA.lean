/- Texts cut at a sign and joined; digits of a base; a part's number; plain. -/
import Derived.Test.YtilamfbpbgcnpaaDoorPctP
namespace Go.Proofs.YtilamfbpbgcnpaaDoor
set_option linter.unusedVariables false
set_option maxRecDepth 20000
/-- A text cut at a sign; acc: what stands ahead. -/
def splitG (sep : UInt8) : List UInt8 → List UInt8 → List (List UInt8)
  | acc, [] => [acc]
  | acc, c :: r => if c = sep then acc :: splitG sep [] r else splitG sep (acc ++ [c]) r
def splitR (sep : UInt8) (l : List UInt8) : List (List UInt8) := splitG sep [] l
theorem splitG_nil (sep : UInt8) (acc : List UInt8) : splitG sep acc [] = [acc] := rfl
theorem splitG_sep (sep : UInt8) (acc r : List UInt8) : splitG sep acc (sep :: r) = acc :: splitG sep [] r := by conv => lhs; unfold splitG; rw [if_pos rfl]
theorem splitG_other {sep c : UInt8} (h : c ≠ sep) (acc r : List UInt8) : splitG sep acc (c :: r) = splitG sep (acc ++ [c]) r := by conv => lhs; unfold splitG; rw [if_neg h]
theorem splitG_free {sep : UInt8} : ∀ (l acc : List UInt8), (∀ c ∈ l, c ≠ sep) → splitG sep acc l = [acc ++ l]
  | [], acc, _ => by rw [splitG_nil, List.append_nil]
  | c :: r, acc, h => by
    rw [splitG_other (h c List.mem_cons_self), splitG_free r _ (fun x hx => h x (List.mem_cons_of_mem _ hx)), List.append_assoc]
    rfl
theorem splitG_at {sep : UInt8} : ∀ (a acc b : List UInt8), (∀ c ∈ a, c ≠ sep) → splitG sep acc (a ++ sep :: b) = (acc ++ a) :: splitG sep [] b
  | [], acc, b, _ => by rw [List.nil_append, splitG_sep, List.append_nil]
  | c :: r, acc, b, h => by
    rw [List.cons_append, splitG_other (h c List.mem_cons_self), splitG_at r _ b (fun x hx => h x (List.mem_cons_of_mem _ hx)), List.append_assoc]
    rfl
theorem splitG_ne (sep : UInt8) : ∀ (l acc : List UInt8), splitG sep acc l ≠ []
  | [], acc => by rw [splitG_nil]; simp
  | c :: r, acc => by
    by_cases h : c = sep
    · subst h; rw [splitG_sep]; simp
    · rw [splitG_other h]; exact splitG_ne sep r _
theorem splitR_ne (sep : UInt8) (l : List UInt8) : splitR sep l ≠ [] := splitG_ne sep l []
theorem splitG_len (sep : UInt8) : ∀ (l acc : List UInt8), (splitG sep acc l).length ≤ l.length + 1
  | [], acc => by rw [splitG_nil]; simp
  | c :: r, acc => by
    by_cases h : c = sep
    · subst h; rw [splitG_sep, List.length_cons, List.length_cons]; have := splitG_len c r []; omega
    · rw [splitG_other h, List.length_cons]; have := splitG_len sep r (acc ++ [c]); omega
/-- Pieces with a sign between. -/
def joinC (sep : UInt8) : List (List UInt8) → List UInt8
  | [] => []
  | [p] => p
  | p :: q :: r => p ++ sep :: joinC sep (q :: r)
theorem joinC_one (sep : UInt8) (p : List UInt8) : joinC sep [p] = p := rfl
theorem joinC_cons (sep : UInt8) (p : List UInt8) {r : List (List UInt8)} (h : r ≠ []) : joinC sep (p :: r) = p ++ sep :: joinC sep r := by
  match r, h with
  | q :: r, _ => rfl
theorem split_join {sep : UInt8} : ∀ (ps : List (List UInt8)), ps ≠ [] → (∀ p ∈ ps, ∀ c ∈ p, c ≠ sep) → splitR sep (joinC sep ps) = ps
  | [p], _, h => by
    rw [joinC_one]
    unfold splitR
    rw [splitG_free p [] (h p List.mem_cons_self)]
    rfl
  | p :: q :: r, _, h => by
    have ih := split_join (q :: r) (by simp) (fun x hx => h x (List.mem_cons_of_mem _ hx))
    unfold splitR at ih ⊢
    rw [joinC_cons sep p (by simp), splitG_at p [] _ (h p List.mem_cons_self), ih]
    rfl
theorem joinC_snoc (sep : UInt8) : ∀ (ps : List (List UInt8)) (p : List UInt8), ps ≠ [] → joinC sep (ps ++ [p]) = joinC sep ps ++ sep :: p
  | [q], p, _ => rfl
  | q :: x :: r, p, _ => by
    have ih := joinC_snoc sep (x :: r) p (by simp)
    rw [List.cons_append, joinC_cons sep q (by simp), ih, joinC_cons sep q (by simp), List.append_assoc]
    rfl
/- Digits. -/
def dgv (c : UInt8) : Nat := (hexV c.toNat).getD 0
def digB (b : Nat) (c : UInt8) : Bool := match hexV c.toNat with
  | some d => decide (d < b)
  | none => false
def digsR (b : Nat) (l : List UInt8) : Bool := l.all (digB b)
def hexR : List UInt8 → Bool
  | a :: x :: _ => a == 48 && (x == 120 || x == 88)
  | _ => false
def valRIp (b : Nat) (l : List UInt8) : Nat := l.foldl (fun n c => min (n * b + dgv c) 1099511627776) 0
def valX (b : Nat) (l : List UInt8) : Nat := l.foldl (fun n c => n * b + dgv c) 0
theorem valR_snoc (b : Nat) (l : List UInt8) (c : UInt8) : valRIp b (l ++ [c]) = min (valRIp b l * b + dgv c) 1099511627776 := by unfold valRIp; rw [List.foldl_append]; rfl
theorem valX_snoc (b : Nat) (l : List UInt8) (c : UInt8) : valX b (l ++ [c]) = valX b l * b + dgv c := by unfold valX; rw [List.foldl_append]; rfl
theorem valR_le (b : Nat) (l : List UInt8) : valRIp b l ≤ 1099511627776 := by
  rcases List.eq_nil_or_concat l with h | ⟨l', c, h⟩
  · subst h; exact Nat.zero_le _
  · rw [h, List.concat_eq_append, valR_snoc]; exact Nat.min_le_right _ _
theorem valR_step (b x d : Nat) (hb : 1 ≤ b) : min (min x 1099511627776 * b + d) 1099511627776 = min (x * b + d) 1099511627776 := by
  rcases Nat.le_total x 1099511627776 with h | h
  · rw [Nat.min_eq_left h]
  · rw [Nat.min_eq_right h]
    have h1 : 1099511627776 ≤ 1099511627776 * b := Nat.le_mul_of_pos_right _ hb
    have h2 : 1099511627776 * b ≤ x * b := Nat.mul_le_mul_right b h
    rw [Nat.min_eq_right (by omega), Nat.min_eq_right (by omega)]
theorem valR_eq (b : Nat) (hb : 1 ≤ b) : ∀ (n : Nat) (l : List UInt8), l.length = n → valRIp b l = min (valX b l) 1099511627776
  | 0, l, h => by rw [List.eq_nil_of_length_eq_zero h]; rfl
  | n + 1, l, h => by
    rcases List.eq_nil_or_concat l with h' | ⟨l', c, h'⟩
    · rw [h'] at h; simp at h
    · rw [List.concat_eq_append] at h'
      subst h'
      rw [List.length_append] at h
      rw [valR_snoc, valX_snoc, valR_eq b hb n l' (by simpa using h), valR_step b _ _ hb]
theorem valR_small {b : Nat} (hb : 1 ≤ b) {l : List UInt8} {n : Nat} (h : valX b l = n) (hn : n ≤ 1099511627776) : valRIp b l = n := by
  rw [valR_eq b hb _ l rfl, h, Nat.min_eq_left hn]
/-- What of a part are its digits, and of which base. -/
def baseR (l : List UInt8) : List UInt8 × Nat := if hexR l = true then (l.drop 2, 16) else if 1 < l.length ∧ l.head? = some 48 then (l.drop 1, 8) else (l, 10)
def numR (l : List UInt8) : Option Nat := if l = [] then none else if digsR (baseR l).2 (baseR l).1 = true then some (valRIp (baseR l).2 (baseR l).1) else none
/- Digits that are written. -/
def hx (n : Nat) : UInt8 := UInt8.ofNat (if n < 10 then 48 + n else 87 + n)
theorem hx_all : (List.range 16).all (fun n => hexV (hx n).toNat == some n && ((hx n == 48) == (n == 0)) && hx n != 46 && hx n != 58 && hx n != 120 && hx n != 88) = true := by decide +kernel
theorem hx_one {n : Nat} (h : n < 16) : hexV (hx n).toNat = some n ∧ (hx n = 48 ↔ n = 0) ∧ hx n ≠ 46 ∧ hx n ≠ 58 ∧ hx n ≠ 120 ∧ hx n ≠ 88 := by
  have := List.all_eq_true.1 hx_all n (List.mem_range.2 h)
  simp only [Bool.and_eq_true, bne_iff_ne, beq_iff_eq] at this
  obtain ⟨⟨⟨⟨⟨h1, h2⟩, h3⟩, h4⟩, h5⟩, h6⟩ := this
  refine ⟨h1, ?_, h3, h4, h5, h6⟩
  constructor
  · intro e; rw [e] at h2; simpa using h2.symm
  · intro e; rw [e]; rfl
theorem hx_dgv {n : Nat} (h : n < 16) : dgv (hx n) = n := by unfold dgv; rw [(hx_one h).1]; rfl
theorem hx_digB {b n : Nat} (h : n < 16) (hb : n < b) : digB b (hx n) = true := by unfold digB; rw [(hx_one h).1]; simpa using hb
def dgs (b : Nat) : Nat → Nat → List UInt8
  | 0, n => [hx (n % b)]
  | f + 1, n => if n < b then [hx n] else dgs b f (n / b) ++ [hx (n % b)]
/-- A number in digits of a base. -/
def digsOf (b n : Nat) : List UInt8 := dgs b 63 n
theorem dgs_small {b n : Nat} (f : Nat) (h : n < b) : dgs b f n = [hx n] := by
  cases f with
  | zero => unfold dgs; rw [Nat.mod_eq_of_lt h]
  | succ f => unfold dgs; rw [if_pos h]
theorem dgs_big {b n : Nat} (f : Nat) (h : ¬ n < b) : dgs b (f + 1) n = dgs b f (n / b) ++ [hx (n % b)] := by
  conv => lhs; unfold dgs
  rw [if_neg h]
theorem div_pow {b n f : Nat} (hb : 0 < b) (h : n < b ^ (f + 1 + 1)) : n / b < b ^ (f + 1) := by
  rw [Nat.div_lt_iff_lt_mul hb]
  rw [Nat.pow_succ] at h
  exact h
theorem dgs_fuel {b : Nat} (hb : 2 ≤ b) : ∀ (f n : Nat), n < b ^ (f + 1) → dgs b (f + 1) n = dgs b f n
  | 0, n, h => by
    rw [Nat.pow_one] at h
    rw [dgs_small _ h, dgs_small _ h]
  | f + 1, n, h => by
    by_cases hn : n < b
    · rw [dgs_small _ hn, dgs_small _ hn]
    · rw [dgs_big _ hn, dgs_big _ hn, dgs_fuel hb f (n / b) (div_pow (by omega) h)]
theorem dgs_more {b : Nat} (hb : 2 ≤ b) (f n : Nat) (h : n < b ^ (f + 1)) : ∀ k, dgs b (f + k) n = dgs b f n
  | 0 => rfl
  | k + 1 => by
    have h' : n < b ^ (f + k + 1) := Nat.lt_of_lt_of_le h (Nat.pow_le_pow_right (by omega) (by omega))
    rw [← Nat.add_assoc, dgs_fuel hb (f + k) n h', dgs_more hb f n h k]
theorem pow_64 {b : Nat} (hb : 2 ≤ b) {n : Nat} (h : n < 18446744073709551616) : n < b ^ (63 + 1) :=
  Nat.lt_of_lt_of_le h (Nat.le_trans (show 18446744073709551616 ≤ 2 ^ 64 by decide) (Nat.pow_le_pow_left hb 64))
theorem digsOf_small {b n : Nat} (h : n < b) : digsOf b n = [hx n] := dgs_small 63 h
theorem digsOf_big {b n : Nat} (hb : 2 ≤ b) (h64 : n < 18446744073709551616) (h : ¬ n < b) : digsOf b n = digsOf b (n / b) ++ [hx (n % b)] := by
  unfold digsOf
  have h1 : n / b < 18446744073709551616 := Nat.lt_of_le_of_lt (Nat.div_le_self _ _) h64
  have h2 : dgs b 63 n = dgs b 64 n := (dgs_fuel hb 63 n (pow_64 hb h64)).symm
  rw [h2, dgs_big 63 h]
/-- What holds of a number's digits. -/
theorem dgs_facts {b : Nat} (hb : 2 ≤ b) (hb16 : b ≤ 16) : ∀ (f n : Nat), n < b ^ (f + 1) → dgs b f n ≠ [] ∧ digsR b (dgs b f n) = true ∧ valX b (dgs b f n) = n ∧ (dgs b f n).length ≤ f + 1 ∧ (n ≠ 0 → (dgs b f n).head? ≠ some 48) ∧ (∀ c ∈ dgs b f n, c ≠ 46 ∧ c ≠ 58 ∧ c ≠ 120 ∧ c ≠ 88)
  | 0, n, h => by
    rw [Nat.pow_one] at h
    rw [dgs_small _ h]
    have hx' := hx_one (n := n) (by omega)
    refine ⟨by simp, by unfold digsR; simp [hx_digB (b := b) (n := n) (by omega) h], by unfold valX; simp [hx_dgv (n := n) (by omega)], by simp, fun h0 e => ?_, fun c hc => ?_⟩
    · simp at e
      exact h0 (hx'.2.1.1 e)
    · rw [List.mem_singleton.1 hc]; exact hx'.2.2
  | f + 1, n, h => by
    by_cases hn : n < b
    · rw [dgs_small _ hn]
      have hx' := hx_one (n := n) (by omega)
      refine ⟨by simp, by unfold digsR; simp [hx_digB (b := b) (n := n) (by omega) hn], by unfold valX; simp [hx_dgv (n := n) (by omega)], by simp, fun h0 e => ?_, fun c hc => ?_⟩
      · simp at e
        exact h0 (hx'.2.1.1 e)
      · rw [List.mem_singleton.1 hc]; exact hx'.2.2
    · have hm : n % b < b := Nat.mod_lt _ (by omega)
      obtain ⟨i1, i2, i3, i4, i5, i6⟩ := dgs_facts hb hb16 f (n / b) (div_pow (by omega) h)
      rw [dgs_big _ hn]
      have hx' := hx_one (n := n % b) (by omega)
      refine ⟨by simp, ?_, ?_, by rw [List.length_append]; simp; omega, fun h0 => ?_, fun c hc => ?_⟩
      · unfold digsR at i2 ⊢
        rw [List.all_append, i2]
        simp [hx_digB (b := b) (n := n % b) (by omega) hm]
      · rw [valX_snoc, i3, hx_dgv (by omega)]
        have := Nat.div_add_mod n b
        rw [Nat.mul_comm] at this
        exact this
      · have hd : n / b ≠ 0 := by
          intro e
          have := Nat.div_add_mod n b
          rw [e] at this
          omega
        cases hl : dgs b f (n / b) with
        | nil => exact absurd hl i1
        | cons x r =>
          have := i5 hd
          rw [hl] at this
          simpa using this
      · rcases List.mem_append.1 hc with h' | h'
        · exact i6 c h'
        · rw [List.mem_singleton.1 h']; exact hx'.2.2
theorem digsOf_facts {b : Nat} (hb : 2 ≤ b) (hb16 : b ≤ 16) {n : Nat} (h : n < 18446744073709551616) : digsOf b n ≠ [] ∧ digsR b (digsOf b n) = true ∧ valX b (digsOf b n) = n ∧ (digsOf b n).length ≤ 64 ∧ (n ≠ 0 → (digsOf b n).head? ≠ some 48) ∧ (∀ c ∈ digsOf b n, c ≠ 46 ∧ c ≠ 58 ∧ c ≠ 120 ∧ c ≠ 88) := dgs_facts hb hb16 63 n (pow_64 hb h)
theorem digsOf_len {b : Nat} (hb : 2 ≤ b) (hb16 : b ≤ 16) {n f : Nat} (hf : f ≤ 63) (h : n < b ^ (f + 1)) : (digsOf b n).length ≤ f + 1 := by
  unfold digsOf
  obtain ⟨k, hk⟩ := Nat.exists_eq_add_of_le hf
  rw [hk, dgs_more hb f n h]
  exact (dgs_facts hb hb16 f n h).2.2.2.1
theorem hexR_free {l : List UInt8} (h : ∀ c ∈ l, c ≠ 120 ∧ c ≠ 88) : hexR l = false := by
  match l, h with
  | [], _ => rfl
  | [a], _ => rfl
  | a :: x :: r, h =>
    have hx := h x (by simp)
    show (a == 48 && (x == 120 || x == 88)) = false
    rw [beq_eq_false_iff_ne.2 hx.1, beq_eq_false_iff_ne.2 hx.2]
    simp
/-- A number in decimal digits has its number. -/
theorem numR_ten {n : Nat} (h : n ≤ 1099511627776) : numR (digsOf 10 n) = some n := by
  obtain ⟨f1, f2, f3, f4, f5, f6⟩ := digsOf_facts (b := 10) (by decide) (by decide) (n := n) (by omega)
  have hb : baseR (digsOf 10 n) = (digsOf 10 n, 10) := by
    unfold baseR
    rw [if_neg (by rw [hexR_free (fun c hc => (f6 c hc).2.2)]; decide), if_neg]
    rintro ⟨g1, g2⟩
    by_cases h0 : n = 0
    · rw [h0, digsOf_small (by decide)] at g1; simp at g1
    · exact f5 h0 g2
  unfold numR
  rw [if_neg f1, hb, if_pos f2, valR_small (by decide) f3 h]
theorem numR_hex {n : Nat} (h : n ≤ 1099511627776) : numR (48 :: 120 :: digsOf 16 n) = some n := by
  obtain ⟨f1, f2, f3, f4, f5, f6⟩ := digsOf_facts (b := 16) (by decide) (by decide) (n := n) (by omega)
  have hb : baseR (48 :: 120 :: digsOf 16 n) = (digsOf 16 n, 16) := by
    unfold baseR
    rw [if_pos (by rfl)]
    rfl
  unfold numR
  rw [if_neg (by simp), hb, if_pos f2, valR_small (by decide) f3 h]
theorem numR_oct {n : Nat} (h : n ≤ 1099511627776) : numR (48 :: digsOf 8 n) = some n := by
  obtain ⟨f1, f2, f3, f4, f5, f6⟩ := digsOf_facts (b := 8) (by decide) (by decide) (n := n) (by omega)
  have hl : 1 ≤ (digsOf 8 n).length := by
    rcases Nat.eq_zero_or_pos (digsOf 8 n).length with h' | h'
    · exact absurd (List.eq_nil_of_length_eq_zero h') f1
    · exact h'
  have hb : baseR (48 :: digsOf 8 n) = (digsOf 8 n, 8) := by
    unfold baseR
    rw [if_neg, if_pos ⟨by rw [List.length_cons]; omega, rfl⟩]
    · rfl
    · rw [hexR_free]
      · decide
      · intro c hc
        rcases List.mem_cons.1 hc with rfl | hc
        · exact ⟨by decide, by decide⟩
        · exact (f6 c hc).2.2
  unfold numR
  rw [if_neg (by simp), hb, if_pos f2, valR_small (by decide) f3 h]
end Go.Proofs.YtilamfbpbgcnpaaDoor
