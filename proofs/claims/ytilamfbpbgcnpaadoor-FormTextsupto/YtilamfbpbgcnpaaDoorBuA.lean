/- Texts of one proof, laid behind one another. -/
import Derived.Test.YtilamfbpbgcnpaaDoorPctP
import Derived.Test.YtilamfbpbgcnpaaDoorRowW
import Derived.Test.YtilamfbpbgcnpaaDoorPctC
import Derived.Deep.DeepMust
/- Texts cut at a sign and joined; digits of a base; a part's number; plain. -/
namespace Go.Proofs.YtilamfbpbgcnpaaDoor
set_option linter.unusedVariables false
set_option maxRecDepth 20000
/-- A text cut at a sign; acc: what stands ahead. -/
def splitG (sep : UInt8) : List UInt8 → List UInt8 → List (List UInt8)
  | acc, [] => [acc]
  | acc, c :: r => if c = sep then acc :: splitG sep [] r else splitG sep (acc ++ [c]) r
def splitR (sep : UInt8) (l : List UInt8) : List (List UInt8) := splitG sep [] l
theorem splitG_nil (sep : UInt8) (acc : List UInt8) : splitG sep acc [] = [acc] := rfl
theorem splitG_sep (sep : UInt8) (acc r : List UInt8) : splitG sep acc (sep :: r) = acc :: splitG sep [] r := by conv => lhs; unfold splitG; rw [if_pos rfl]
theorem splitG_other {sep c : UInt8} (h : c ≠ sep) (acc r : List UInt8) : splitG sep acc (c :: r) = splitG sep (acc ++ [c]) r := by conv => lhs; unfold splitG; rw [if_neg h]
theorem splitG_free {sep : UInt8} : ∀ (l acc : List UInt8), (∀ c ∈ l, c ≠ sep) → splitG sep acc l = [acc ++ l]
  | [], acc, _ => by rw [splitG_nil, List.append_nil]
  | c :: r, acc, h => by
    rw [splitG_other (h c List.mem_cons_self), splitG_free r _ (fun x hx => h x (List.mem_cons_of_mem _ hx)), List.append_assoc]
    rfl
theorem splitG_at {sep : UInt8} : ∀ (a acc b : List UInt8), (∀ c ∈ a, c ≠ sep) → splitG sep acc (a ++ sep :: b) = (acc ++ a) :: splitG sep [] b
  | [], acc, b, _ => by rw [List.nil_append, splitG_sep, List.append_nil]
  | c :: r, acc, b, h => by
    rw [List.cons_append, splitG_other (h c List.mem_cons_self), splitG_at r _ b (fun x hx => h x (List.mem_cons_of_mem _ hx)), List.append_assoc]
    rfl
theorem splitG_ne (sep : UInt8) : ∀ (l acc : List UInt8), splitG sep acc l ≠ []
  | [], acc => by rw [splitG_nil]; simp
  | c :: r, acc => by
    by_cases h : c = sep
    · subst h; rw [splitG_sep]; simp
    · rw [splitG_other h]; exact splitG_ne sep r _
theorem splitR_ne (sep : UInt8) (l : List UInt8) : splitR sep l ≠ [] := splitG_ne sep l []
theorem splitG_len (sep : UInt8) : ∀ (l acc : List UInt8), (splitG sep acc l).length ≤ l.length + 1
  | [], acc => by rw [splitG_nil]; simp
  | c :: r, acc => by
    by_cases h : c = sep
    · subst h; rw [splitG_sep, List.length_cons, List.length_cons]; have := splitG_len c r []; omega
    · rw [splitG_other h, List.length_cons]; have := splitG_len sep r (acc ++ [c]); omega
/-- Pieces with a sign between. -/
def joinC (sep : UInt8) : List (List UInt8) → List UInt8
  | [] => []
  | [p] => p
  | p :: q :: r => p ++ sep :: joinC sep (q :: r)
theorem joinC_one (sep : UInt8) (p : List UInt8) : joinC sep [p] = p := rfl
theorem joinC_cons (sep : UInt8) (p : List UInt8) {r : List (List UInt8)} (h : r ≠ []) : joinC sep (p :: r) = p ++ sep :: joinC sep r := by
  match r, h with
  | q :: r, _ => rfl
theorem split_join {sep : UInt8} : ∀ (ps : List (List UInt8)), ps ≠ [] → (∀ p ∈ ps, ∀ c ∈ p, c ≠ sep) → splitR sep (joinC sep ps) = ps
  | [p], _, h => by
    rw [joinC_one]
    unfold splitR
    rw [splitG_free p [] (h p List.mem_cons_self)]
    rfl
  | p :: q :: r, _, h => by
    have ih := split_join (q :: r) (by simp) (fun x hx => h x (List.mem_cons_of_mem _ hx))
    unfold splitR at ih ⊢
    rw [joinC_cons sep p (by simp), splitG_at p [] _ (h p List.mem_cons_self), ih]
    rfl
theorem joinC_snoc (sep : UInt8) : ∀ (ps : List (List UInt8)) (p : List UInt8), ps ≠ [] → joinC sep (ps ++ [p]) = joinC sep ps ++ sep :: p
  | [q], p, _ => rfl
  | q :: x :: r, p, _ => by
    have ih := joinC_snoc sep (x :: r) p (by simp)
    rw [List.cons_append, joinC_cons sep q (by simp), ih, joinC_cons sep q (by simp), List.append_assoc]
    rfl
/- Digits. -/
def dgv (c : UInt8) : Nat := (hexV c.toNat).getD 0
def digB (b : Nat) (c : UInt8) : Bool := match hexV c.toNat with
  | some d => decide (d < b)
  | none => false
def digsR (b : Nat) (l : List UInt8) : Bool := l.all (digB b)
def hexR : List UInt8 → Bool
  | a :: x :: _ => a == 48 && (x == 120 || x == 88)
  | _ => false
def valRIp (b : Nat) (l : List UInt8) : Nat := l.foldl (fun n c => min (n * b + dgv c) 1099511627776) 0
def valX (b : Nat) (l : List UInt8) : Nat := l.foldl (fun n c => n * b + dgv c) 0
theorem valR_snoc (b : Nat) (l : List UInt8) (c : UInt8) : valRIp b (l ++ [c]) = min (valRIp b l * b + dgv c) 1099511627776 := by unfold valRIp; rw [List.foldl_append]; rfl
theorem valX_snoc (b : Nat) (l : List UInt8) (c : UInt8) : valX b (l ++ [c]) = valX b l * b + dgv c := by unfold valX; rw [List.foldl_append]; rfl
theorem valR_le (b : Nat) (l : List UInt8) : valRIp b l ≤ 1099511627776 := by
  rcases List.eq_nil_or_concat l with h | ⟨l', c, h⟩
  · subst h; exact Nat.zero_le _
  · rw [h, List.concat_eq_append, valR_snoc]; exact Nat.min_le_right _ _
theorem valR_step (b x d : Nat) (hb : 1 ≤ b) : min (min x 1099511627776 * b + d) 1099511627776 = min (x * b + d) 1099511627776 := by
  rcases Nat.le_total x 1099511627776 with h | h
  · rw [Nat.min_eq_left h]
  · rw [Nat.min_eq_right h]
    have h1 : 1099511627776 ≤ 1099511627776 * b := Nat.le_mul_of_pos_right _ hb
    have h2 : 1099511627776 * b ≤ x * b := Nat.mul_le_mul_right b h
    rw [Nat.min_eq_right (by omega), Nat.min_eq_right (by omega)]
theorem valR_eq (b : Nat) (hb : 1 ≤ b) : ∀ (n : Nat) (l : List UInt8), l.length = n → valRIp b l = min (valX b l) 1099511627776
  | 0, l, h => by rw [List.eq_nil_of_length_eq_zero h]; rfl
  | n + 1, l, h => by
    rcases List.eq_nil_or_concat l with h' | ⟨l', c, h'⟩
    · rw [h'] at h; simp at h
    · rw [List.concat_eq_append] at h'
      subst h'
      rw [List.length_append] at h
      rw [valR_snoc, valX_snoc, valR_eq b hb n l' (by simpa using h), valR_step b _ _ hb]
theorem valR_small {b : Nat} (hb : 1 ≤ b) {l : List UInt8} {n : Nat} (h : valX b l = n) (hn : n ≤ 1099511627776) : valRIp b l = n := by
  rw [valR_eq b hb _ l rfl, h, Nat.min_eq_left hn]
/-- What of a part are its digits, and of which base. -/
def baseR (l : List UInt8) : List UInt8 × Nat := if hexR l = true then (l.drop 2, 16) else if 1 < l.length ∧ l.head? = some 48 then (l.drop 1, 8) else (l, 10)
def numR (l : List UInt8) : Option Nat := if l = [] then none else if digsR (baseR l).2 (baseR l).1 = true then some (valRIp (baseR l).2 (baseR l).1) else none
/- Digits that are written. -/
def hx (n : Nat) : UInt8 := UInt8.ofNat (if n < 10 then 48 + n else 87 + n)
theorem hx_all : (List.range 16).all (fun n => hexV (hx n).toNat == some n && ((hx n == 48) == (n == 0)) && hx n != 46 && hx n != 58 && hx n != 120 && hx n != 88) = true := by decide +kernel
theorem hx_one {n : Nat} (h : n < 16) : hexV (hx n).toNat = some n ∧ (hx n = 48 ↔ n = 0) ∧ hx n ≠ 46 ∧ hx n ≠ 58 ∧ hx n ≠ 120 ∧ hx n ≠ 88 := by
  have := List.all_eq_true.1 hx_all n (List.mem_range.2 h)
  simp only [Bool.and_eq_true, bne_iff_ne, beq_iff_eq] at this
  obtain ⟨⟨⟨⟨⟨h1, h2⟩, h3⟩, h4⟩, h5⟩, h6⟩ := this
  refine ⟨h1, ?_, h3, h4, h5, h6⟩
  constructor
  · intro e; rw [e] at h2; simpa using h2.symm
  · intro e; rw [e]; rfl
theorem hx_dgv {n : Nat} (h : n < 16) : dgv (hx n) = n := by unfold dgv; rw [(hx_one h).1]; rfl
theorem hx_digB {b n : Nat} (h : n < 16) (hb : n < b) : digB b (hx n) = true := by unfold digB; rw [(hx_one h).1]; simpa using hb
def dgs (b : Nat) : Nat → Nat → List UInt8
  | 0, n => [hx (n % b)]
  | f + 1, n => if n < b then [hx n] else dgs b f (n / b) ++ [hx (n % b)]
/-- A number in digits of a base. -/
def digsOf (b n : Nat) : List UInt8 := dgs b 63 n
theorem dgs_small {b n : Nat} (f : Nat) (h : n < b) : dgs b f n = [hx n] := by
  cases f with
  | zero => unfold dgs; rw [Nat.mod_eq_of_lt h]
  | succ f => unfold dgs; rw [if_pos h]
theorem dgs_big {b n : Nat} (f : Nat) (h : ¬ n < b) : dgs b (f + 1) n = dgs b f (n / b) ++ [hx (n % b)] := by
  conv => lhs; unfold dgs
  rw [if_neg h]
theorem div_pow {b n f : Nat} (hb : 0 < b) (h : n < b ^ (f + 1 + 1)) : n / b < b ^ (f + 1) := by
  rw [Nat.div_lt_iff_lt_mul hb]
  rw [Nat.pow_succ] at h
  exact h
theorem dgs_fuel {b : Nat} (hb : 2 ≤ b) : ∀ (f n : Nat), n < b ^ (f + 1) → dgs b (f + 1) n = dgs b f n
  | 0, n, h => by
    rw [Nat.pow_one] at h
    rw [dgs_small _ h, dgs_small _ h]
  | f + 1, n, h => by
    by_cases hn : n < b
    · rw [dgs_small _ hn, dgs_small _ hn]
    · rw [dgs_big _ hn, dgs_big _ hn, dgs_fuel hb f (n / b) (div_pow (by omega) h)]
theorem dgs_more {b : Nat} (hb : 2 ≤ b) (f n : Nat) (h : n < b ^ (f + 1)) : ∀ k, dgs b (f + k) n = dgs b f n
  | 0 => rfl
  | k + 1 => by
    have h' : n < b ^ (f + k + 1) := Nat.lt_of_lt_of_le h (Nat.pow_le_pow_right (by omega) (by omega))
    rw [← Nat.add_assoc, dgs_fuel hb (f + k) n h', dgs_more hb f n h k]
theorem pow_64 {b : Nat} (hb : 2 ≤ b) {n : Nat} (h : n < 18446744073709551616) : n < b ^ (63 + 1) :=
  Nat.lt_of_lt_of_le h (Nat.le_trans (show 18446744073709551616 ≤ 2 ^ 64 by decide) (Nat.pow_le_pow_left hb 64))
theorem digsOf_small {b n : Nat} (h : n < b) : digsOf b n = [hx n] := dgs_small 63 h
theorem digsOf_big {b n : Nat} (hb : 2 ≤ b) (h64 : n < 18446744073709551616) (h : ¬ n < b) : digsOf b n = digsOf b (n / b) ++ [hx (n % b)] := by
  unfold digsOf
  have h1 : n / b < 18446744073709551616 := Nat.lt_of_le_of_lt (Nat.div_le_self _ _) h64
  have h2 : dgs b 63 n = dgs b 64 n := (dgs_fuel hb 63 n (pow_64 hb h64)).symm
  rw [h2, dgs_big 63 h]
/-- What holds of a number's digits. -/
theorem dgs_facts {b : Nat} (hb : 2 ≤ b) (hb16 : b ≤ 16) : ∀ (f n : Nat), n < b ^ (f + 1) → dgs b f n ≠ [] ∧ digsR b (dgs b f n) = true ∧ valX b (dgs b f n) = n ∧ (dgs b f n).length ≤ f + 1 ∧ (n ≠ 0 → (dgs b f n).head? ≠ some 48) ∧ (∀ c ∈ dgs b f n, c ≠ 46 ∧ c ≠ 58 ∧ c ≠ 120 ∧ c ≠ 88)
  | 0, n, h => by
    rw [Nat.pow_one] at h
    rw [dgs_small _ h]
    have hx' := hx_one (n := n) (by omega)
    refine ⟨by simp, by unfold digsR; simp [hx_digB (b := b) (n := n) (by omega) h], by unfold valX; simp [hx_dgv (n := n) (by omega)], by simp, fun h0 e => ?_, fun c hc => ?_⟩
    · simp at e
      exact h0 (hx'.2.1.1 e)
    · rw [List.mem_singleton.1 hc]; exact hx'.2.2
  | f + 1, n, h => by
    by_cases hn : n < b
    · rw [dgs_small _ hn]
      have hx' := hx_one (n := n) (by omega)
      refine ⟨by simp, by unfold digsR; simp [hx_digB (b := b) (n := n) (by omega) hn], by unfold valX; simp [hx_dgv (n := n) (by omega)], by simp, fun h0 e => ?_, fun c hc => ?_⟩
      · simp at e
        exact h0 (hx'.2.1.1 e)
      · rw [List.mem_singleton.1 hc]; exact hx'.2.2
    · have hm : n % b < b := Nat.mod_lt _ (by omega)
      obtain ⟨i1, i2, i3, i4, i5, i6⟩ := dgs_facts hb hb16 f (n / b) (div_pow (by omega) h)
      rw [dgs_big _ hn]
      have hx' := hx_one (n := n % b) (by omega)
      refine ⟨by simp, ?_, ?_, by rw [List.length_append]; simp; omega, fun h0 => ?_, fun c hc => ?_⟩
      · unfold digsR at i2 ⊢
        rw [List.all_append, i2]
        simp [hx_digB (b := b) (n := n % b) (by omega) hm]
      · rw [valX_snoc, i3, hx_dgv (by omega)]
        have := Nat.div_add_mod n b
        rw [Nat.mul_comm] at this
        exact this
      · have hd : n / b ≠ 0 := by
          intro e
          have := Nat.div_add_mod n b
          rw [e] at this
          omega
        cases hl : dgs b f (n / b) with
        | nil => exact absurd hl i1
        | cons x r =>
          have := i5 hd
          rw [hl] at this
          simpa using this
      · rcases List.mem_append.1 hc with h' | h'
        · exact i6 c h'
        · rw [List.mem_singleton.1 h']; exact hx'.2.2
theorem digsOf_facts {b : Nat} (hb : 2 ≤ b) (hb16 : b ≤ 16) {n : Nat} (h : n < 18446744073709551616) : digsOf b n ≠ [] ∧ digsR b (digsOf b n) = true ∧ valX b (digsOf b n) = n ∧ (digsOf b n).length ≤ 64 ∧ (n ≠ 0 → (digsOf b n).head? ≠ some 48) ∧ (∀ c ∈ digsOf b n, c ≠ 46 ∧ c ≠ 58 ∧ c ≠ 120 ∧ c ≠ 88) := dgs_facts hb hb16 63 n (pow_64 hb h)
theorem digsOf_len {b : Nat} (hb : 2 ≤ b) (hb16 : b ≤ 16) {n f : Nat} (hf : f ≤ 63) (h : n < b ^ (f + 1)) : (digsOf b n).length ≤ f + 1 := by
  unfold digsOf
  obtain ⟨k, hk⟩ := Nat.exists_eq_add_of_le hf
  rw [hk, dgs_more hb f n h]
  exact (dgs_facts hb hb16 f n h).2.2.2.1
theorem hexR_free {l : List UInt8} (h : ∀ c ∈ l, c ≠ 120 ∧ c ≠ 88) : hexR l = false := by
  match l, h with
  | [], _ => rfl
  | [a], _ => rfl
  | a :: x :: r, h =>
    have hx := h x (by simp)
    show (a == 48 && (x == 120 || x == 88)) = false
    rw [beq_eq_false_iff_ne.2 hx.1, beq_eq_false_iff_ne.2 hx.2]
    simp
/-- A number in decimal digits has its number. -/
theorem numR_ten {n : Nat} (h : n ≤ 1099511627776) : numR (digsOf 10 n) = some n := by
  obtain ⟨f1, f2, f3, f4, f5, f6⟩ := digsOf_facts (b := 10) (by decide) (by decide) (n := n) (by omega)
  have hb : baseR (digsOf 10 n) = (digsOf 10 n, 10) := by
    unfold baseR
    rw [if_neg (by rw [hexR_free (fun c hc => (f6 c hc).2.2)]; decide), if_neg]
    rintro ⟨g1, g2⟩
    by_cases h0 : n = 0
    · rw [h0, digsOf_small (by decide)] at g1; simp at g1
    · exact f5 h0 g2
  unfold numR
  rw [if_neg f1, hb, if_pos f2, valR_small (by decide) f3 h]
theorem numR_hex {n : Nat} (h : n ≤ 1099511627776) : numR (48 :: 120 :: digsOf 16 n) = some n := by
  obtain ⟨f1, f2, f3, f4, f5, f6⟩ := digsOf_facts (b := 16) (by decide) (by decide) (n := n) (by omega)
  have hb : baseR (48 :: 120 :: digsOf 16 n) = (digsOf 16 n, 16) := by
    unfold baseR
    rw [if_pos (by rfl)]
    rfl
  unfold numR
  rw [if_neg (by simp), hb, if_pos f2, valR_small (by decide) f3 h]
theorem numR_oct {n : Nat} (h : n ≤ 1099511627776) : numR (48 :: digsOf 8 n) = some n := by
  obtain ⟨f1, f2, f3, f4, f5, f6⟩ := digsOf_facts (b := 8) (by decide) (by decide) (n := n) (by omega)
  have hl : 1 ≤ (digsOf 8 n).length := by
    rcases Nat.eq_zero_or_pos (digsOf 8 n).length with h' | h'
    · exact absurd (List.eq_nil_of_length_eq_zero h') f1
    · exact h'
  have hb : baseR (48 :: digsOf 8 n) = (digsOf 8 n, 8) := by
    unfold baseR
    rw [if_neg, if_pos ⟨by rw [List.length_cons]; omega, rfl⟩]
    · rfl
    · rw [hexR_free]
      · decide
      · intro c hc
        rcases List.mem_cons.1 hc with rfl | hc
        · exact ⟨by decide, by decide⟩
        · exact (f6 c hc).2.2
  unfold numR
  rw [if_neg (by simp), hb, if_pos f2, valR_small (by decide) f3 h]
end Go.Proofs.YtilamfbpbgcnpaaDoor
/- Rows of texts; the document's digits and hex. -/
namespace Go.Proofs.YtilamfbpbgcnpaaDoor
open Go.RowKit
set_option linter.unusedVariables false
set_option maxRecDepth 20000
abbrev fsIp (l : List UInt8) : Value := .string (strOf l)
abbrev SRowIp (w : World) (v : Value) (ps : List (List UInt8)) : Prop := Row fsIp w v ps
abbrev SOwnIp (w : World) (base : Nat) (v : Value) (ps : List (List UInt8)) : Prop := Own fsIp 9 w base v ps
theorem str_data (L : List UInt8) : (strOf L).data.toList = L := rfl
theorem str_size (L : List UInt8) : (strOf L).size = L.length := rfl
theorem of_data (s : ByteArray) : s = strOf s.data.toList := rfl
theorem info_strIp : (Tryd.prog.info? 9).map (fun i => (i.zero, i.size, i.bytes)) = some (some (.string ⟨#[]⟩), 1, 16) := by kernel_rfl
theorem appendS_runIp {w : World} {base : Nat} {v : Value} {xs : List (List UInt8)} (hown : SOwnIp w base v xs) {x : Value} {l : List (List UInt8)} (hx : SRowIp w x l) (hlen : xs.length + l.length ≤ 1000000) (hbase : base ≤ w.heap.size) :
    ∃ v' w', (Builtin.append_ #[31, 31] 31 #[v, x]).run Tryd.prog w = .ok v' w' ∧ SOwnIp w' base v' (xs ++ l) ∧ w.grownBy w' v.ownBlock :=
  append_gen (fun _ => rfl) Tryd.underlying31 info_strIp rfl (by decide) hown hx hlen hbase
theorem oneS_row (w : World) (l : List UInt8) : SRowIp (w.alloc (.cells #[.string (strOf l)] 9)) (.slice (some ⟨w.heap.size, 0, none⟩) 1 1) [l] := Row.lit fsIp w [l] 9 (0, 0) (by simp)
theorem cut_mid (s : ByteArray) (a b : Nat) (h : b ≤ s.size) : s.extract a b = strOf ((s.data.toList.drop a).take (b - a)) := by
  apply ByteArray.ext
  rw [ByteArray.data_extract]
  apply Array.toList_inj.1
  rw [Array.toList_extract, List.extract_eq_take_drop]
  rfl
theorem rd_someIp {n d : Nat} (h : hexV n = some d) : rdPc n = (d : Int) := by unfold rdPc; rw [h]
theorem rd_noneIp {n : Nat} (h : hexV n = none) : rdPc n = -1 := by unfold rdPc; rw [h]
theorem digB_some {b d : Nat} {c : UInt8} (h : hexV c.toNat = some d) : digB b c = decide (d < b) := by unfold digB; rw [h]
theorem digB_none {b : Nat} {c : UInt8} (h : hexV c.toNat = none) : digB b c = false := by unfold digB; rw [h]
theorem digs_hit {s : ByteArray} {b k : Nat} (h : k < s.size) (ha : digsR b (s.data.toList.take k) = true) (hb : digB b s[k] = true) : digsR b (s.data.toList.take (k + 1)) = true := by
  have hl : k < s.data.toList.length := by rw [bytes_num]; exact h
  unfold digsR at ha ⊢
  rw [List.take_succ_eq_append_getElem hl, List.all_append, ha]
  simp only [List.all_cons, List.all_nil, Bool.and_true, Bool.true_and]
  exact hb
theorem digs_miss {s : ByteArray} {b k : Nat} (h : k < s.size) (hb : digB b s[k] = false) : digsR b s.data.toList = false := by
  unfold digsR
  rw [List.all_eq_false]
  refine ⟨s[k], ?_, by rw [hb]; decide⟩
  have hl : k < s.data.toList.length := by rw [bytes_num]; exact h
  exact List.getElem_mem (l := s.data.toList) (n := k) hl
theorem digs_end {s : ByteArray} {b k : Nat} (h : ¬ k < s.size) (ha : digsR b (s.data.toList.take k) = true) : digsR b s.data.toList = true := by
  rw [List.take_of_length_le (by rw [bytes_num]; omega)] at ha
  exact ha
theorem hexR_short {s : ByteArray} (h : ¬ 2 ≤ s.size) : hexR s.data.toList = false := by
  have hl := bytes_num s
  revert hl
  generalize s.data.toList = l
  intro hl
  match l, hl with
  | [], _ => rfl
  | [a], _ => rfl
  | a :: b :: r, hl => exfalso; simp at hl; omega
theorem hexR_long {s : ByteArray} (h : 2 ≤ s.size) : hexR s.data.toList = ((s[0]'(by omega)).toNat == 48 && ((s[1]'(by omega)).toNat == 120 || (s[1]'(by omega)).toNat == 88)) := by
  have h0 := bytes_at s 0 (by omega)
  have h1 := bytes_at s 1 (by omega)
  have hb : ∀ (x : UInt8) (n : UInt8), (x == n) = (x.toNat == n.toNat) := by
    intro x n
    by_cases e : x = n
    · subst e; simp
    · rw [beq_eq_false_iff_ne.2 e, beq_eq_false_iff_ne.2 (fun e' => e (UInt8.toNat_inj.1 e'))]
  revert h0 h1
  generalize s.data.toList = l
  generalize (s[0]'(by omega)) = a
  generalize (s[1]'(by omega)) = b
  intro h0 h1
  match l, h0, h1 with
  | x :: y :: r, h0, h1 =>
    simp at h0 h1
    subst h0 h1
    show (x == 48 && (y == 120 || y == 88)) = _
    rw [hb x 48, hb y 120, hb y 88]
    rfl
  | [x], h0, h1 => simp at h1
  | [], h0, h1 => simp at h0
end Go.Proofs.YtilamfbpbgcnpaaDoor
/- The document's Split. -/
namespace Go.Proofs.YtilamfbpbgcnpaaDoor
open Go.RowKit
set_option linter.unusedVariables false
set_option maxRecDepth 20000
/-- What has been cut off when the first k bytes have been read, and where the piece under way begins. -/
def SplitAtIp (sep : UInt8) (l : List UInt8) (k f : Nat) (o : List (List UInt8)) : Prop :=
  f ≤ k ∧ k ≤ l.length + 1 ∧ o.length ≤ k ∧ (k ≤ l.length → o ++ splitG sep ((l.drop f).take (k - f)) (l.drop k) = splitR sep l) ∧ (k = l.length + 1 → o = splitR sep l)
theorem SplitAtIp.start (sep : UInt8) (l : List UInt8) : SplitAtIp sep l 0 0 [] := by
  refine ⟨Nat.le_refl _, Nat.zero_le _, Nat.le_refl _, fun _ => ?_, fun h => by omega⟩
  simp [splitR]
theorem SplitAtIp.last {sep : UInt8} {l : List UInt8} {k f : Nat} {o : List (List UInt8)} (h : SplitAtIp sep l k f o) (hk : k = l.length) : SplitAtIp sep l (k + 1) (k + 1) (o ++ [(l.drop f).take (k - f)]) := by
  obtain ⟨h1, h2, h3, h4, h5⟩ := h
  refine ⟨Nat.le_refl _, by omega, by rw [List.length_append]; simp; omega, fun h => by omega, fun _ => ?_⟩
  have := h4 (by omega)
  rw [List.drop_of_length_le (show l.length ≤ k by omega), splitG_nil] at this
  exact this
theorem SplitAtIp.cut {sep : UInt8} {l : List UInt8} {k f : Nat} {o : List (List UInt8)} (h : SplitAtIp sep l k f o) (hk : k < l.length) (hc : l[k] = sep) : SplitAtIp sep l (k + 1) (k + 1) (o ++ [(l.drop f).take (k - f)]) := by
  obtain ⟨h1, h2, h3, h4, h5⟩ := h
  refine ⟨Nat.le_refl _, by omega, by rw [List.length_append]; simp; omega, fun _ => ?_, fun h => by omega⟩
  have := h4 (by omega)
  rw [List.drop_eq_getElem_cons hk, hc, splitG_sep] at this
  rw [← this, List.append_assoc, Nat.sub_self, List.take_zero]
  rfl
theorem SplitAtIp.more {sep : UInt8} {l : List UInt8} {k f : Nat} {o : List (List UInt8)} (h : SplitAtIp sep l k f o) (hk : k < l.length) (hc : l[k] ≠ sep) : SplitAtIp sep l (k + 1) f o := by
  obtain ⟨h1, h2, h3, h4, h5⟩ := h
  refine ⟨by omega, by omega, by omega, fun _ => ?_, fun h => by omega⟩
  have := h4 (by omega)
  rw [List.drop_eq_getElem_cons hk, splitG_other hc] at this
  rw [← this]
  congr 2
  rw [show k + 1 - f = (k - f) + 1 by omega, List.take_succ_eq_append_getElem (by rw [List.length_drop]; omega), List.getElem_drop]
  congr 2
  congr 1
  omega
set_option maxHeartbeats 2000000 in
theorem split_callsIp (s : ByteArray) (sep : UInt8) (w : World) (hs : s.size ≤ 100000) :
    Calls Tryd.prog 20 #[.string s, .int .u8 (sep.toNat : Int)] w fun e w' => (∃ v, e = .returned v ∧ SRowIp w' v (splitR sep s.data.toList)) ∧ Below w.heap.size w w' := by
  have s1 : (s.size : Int) ≤ 100000 := by omega
  have HL := hid (bytes_num s)
  have hsep := byte_lt sep
  go_enter Tryd.func20, Tryd.ntmps20
  go_wp2_with fail
  go_loopw [5, 6, 7] (fun v vf vi wr => ∃ (k f : Nat) (o : List (List UInt8)), k ≤ s.size + 1 ∧ f ≤ k ∧ vf = .int .i64 (f : Int) ∧ vi = .int .i64 (k : Int) ∧ SplitAtIp sep s.data.toList k f o ∧ SOwnIp wr w.heap.size v o ∧ Below w.heap.size w wr) (fun _ _ vi _ => s.size + 1 - (intOf vi).toNat)
  case atStart => exact ⟨0, 0, [], Nat.zero_le _, Nat.le_refl _, rfl, rfl, SplitAtIp.start _ _, Own.nil _ _ _ _, Below.refl _ _⟩
  case round =>
    obtain ⟨k, f, o, hk, hf, rfl, rfl, hsp, ho, hb⟩ := hrel
    have HS := hid hsp
    have HO := hid ho
    have HB := hid hb
    have hsz := hb.size
    have hol := hsp.2.2.1
    have k0 : (0 : Int) ≤ (k : Int) := by omega
    have f0 : (0 : Int) ≤ (f : Int) := by omega
    have f1 : (f : Int) ≤ (k : Int) := by omega
    clear hsp ho hb
    by_cases hle : k ≤ s.size
    · have HE := hid (cut_mid s f k hle)
      obtain ⟨p, hp⟩ : ∃ p, p = (s.data.toList.drop f).take (k - f) := ⟨_, rfl⟩
      rw [← hp] at HE
      have he := HE.out
      have k1 : (k : Int) ≤ (s.size : Int) := by omega
      obtain ⟨v', w1, hr, ho1, hg1⟩ := appendS_runIp (HO.out.alloc (.cells #[.string (strOf p)] 9)) (oneS_row wr p) (by simp; omega) (by simp; omega)
      have HO1 := hid ho1
      have HB1 := hid ((HB.out.alloc hsz _).grown hg1 (by simp; omega) (fun k hk => (World.ownsRow.lt HO.out k hk).1))
      clear ho1 hg1
      by_cases heq : k = s.size
      · have HX := hid (HS.out.last (by rw [HL.out]; exact heq))
        rw [← hp] at HX
        have e1 : ((k : Int) == (s.size : Int)) = true := by rw [heq]; exact beq_self_eq_true _
        have HQ := hid heq
        clear hp HE heq
        go_wp2_with (at_builtin; go_must (refine wpList_append_run hr rfl _ _ rfl rfl rfl rfl ?_))
        go_roundw
        case rel => exact ⟨k + 1, k + 1, _, by have := HQ.out; omega, Nat.le_refl _, by go_num, by go_num, HX.out, HO1.out, HB1.out⟩
        case measure => have := HQ.out; simp [intOf]; omega
      · have hlt : k < s.size := by omega
        have k2 : (k : Int) < (s.size : Int) := by omega
        have e1 : ((k : Int) == (s.size : Int)) = false := by rw [beq_eq_false_iff_ne]; omega
        have hkl : k < s.data.toList.length := by rw [HL.out]; exact hlt
        have HCut := hid (fun h => HS.out.cut hkl h)
        have HMore := hid (fun h => HS.out.more hkl h)
        obtain ⟨z, hz⟩ : ∃ z, (s[k]'hlt).toNat = z := ⟨_, rfl⟩
        have HG : Hid ((s.data.toList[k]'hkl).toNat = z) := hz
        have z9 : (z : Int) < 256 := by have := byte_lt (s[k]'hlt); omega
        have z0 : (0 : Int) ≤ (z : Int) := by omega
        have HLT := hid hlt
        by_cases hzs : z = sep.toNat
        · have HX := hid (HCut.out (UInt8.toNat_inj.1 (HG.out.trans hzs)))
          rw [← hp] at HX
          have e2 : ((z : Int) == (sep.toNat : Int)) = true := by rw [hzs]; exact beq_self_eq_true _
          clear hp HE heq HCut HMore HG hzs
          go_wp2_with (at_builtin; go_must (refine wpList_append_run hr rfl _ _ rfl rfl rfl rfl ?_))
          go_roundw
          case rel => exact ⟨k + 1, k + 1, _, by have := HLT.out; omega, Nat.le_refl _, by go_num, by go_num, HX.out, HO1.out, HB1.out⟩
          case measure => have := HLT.out; simp [intOf]; omega
        · have HX := hid (HMore.out (fun e => hzs (by rw [← HG.out, e])))
          have e2 : ((z : Int) == (sep.toNat : Int)) = false := by rw [beq_eq_false_iff_ne]; omega
          clear hp HE heq HCut HMore HG hzs HO1 HB1 hr he
          go_wp2_with fail
          go_roundw
          case rel => exact ⟨k + 1, f, o, by have := HLT.out; omega, by omega, rfl, by go_num, HX.out, HO.out, HB.out⟩
          case measure => have := HLT.out; simp [intOf]; omega
    · have k1 : ¬ (k : Int) ≤ (s.size : Int) := by omega
      have HX := hid (HS.out.2.2.2.2 (by rw [HL.out]; omega))
      clear hle
      go_wp2_with fail
      go_ret
      exact ⟨⟨_, rfl, by rw [← HX.out]; exact HO.out.row⟩, HB.out⟩
end Go.Proofs.YtilamfbpbgcnpaaDoor
/- The document's number. -/
namespace Go.Proofs.YtilamfbpbgcnpaaDoor
open Go.RowKit
set_option linter.unusedVariables false
set_option maxRecDepth 20000
theorem empty_yes {s : ByteArray} (h : s.size = 0) : s.toList = [] := by
  rw [ByteArray.toList_eq]
  exact List.eq_nil_of_length_eq_zero (by rw [bytes_num]; exact h)
theorem empty_no {s : ByteArray} (h : s.size ≠ 0) : (s.toList == []) = false ∧ s.toList.isEmpty = false := by
  have hl : s.toList.length = s.size := by rw [ByteArray.toList_eq]; exact bytes_num s
  revert hl
  generalize s.toList = l
  intro hl
  match l, hl with
  | [], hl => exact absurd hl.symm h
  | a :: r, _ => exact ⟨rfl, rfl⟩
theorem data_nil {s : ByteArray} (h : s.size = 0) : s.data.toList = [] := List.eq_nil_of_length_eq_zero (by rw [bytes_num]; exact h)
theorem data_ne {s : ByteArray} (h : s.size ≠ 0) : s.data.toList ≠ [] := fun e => h (by rw [← bytes_num, e]; rfl)
theorem drop_data (s : ByteArray) (k : Nat) (h : k ≤ s.size) : (s.extract k s.size).data.toList = s.data.toList.drop k ∧ (s.extract k s.size).size = s.size - k := by
  constructor
  · rw [ByteArray.data_extract, Array.toList_extract, List.extract_eq_take_drop]
    rw [List.take_of_length_le (by rw [List.length_drop, bytes_num]; omega)]
  · rw [ByteArray.size_extract]; omega
theorem digs_at {t : ByteArray} {b k : Nat} (h : digsR b t.data.toList = true) (hk : k < t.size) : ∃ d, hexV t[k].toNat = some d ∧ d < b ∧ dgv t[k] = d := by
  unfold digsR at h
  have hl : k < t.data.toList.length := by rw [bytes_num]; exact hk
  have := List.all_eq_true.1 h t[k] (List.getElem_mem (l := t.data.toList) (n := k) hl)
  unfold digB at this
  cases hv : hexV t[k].toNat with
  | none => rw [hv] at this; cases this
  | some d => rw [hv] at this; exact ⟨d, rfl, by simpa using this, by unfold dgv; rw [hv]; rfl⟩
theorem valR_take {t : ByteArray} {b k : Nat} (hk : k < t.size) : valRIp b (t.data.toList.take (k + 1)) = min (valRIp b (t.data.toList.take k) * b + dgv t[k]) 1099511627776 := by
  have hl : k < t.data.toList.length := by rw [bytes_num]; exact hk
  rw [List.take_succ_eq_append_getElem hl, valR_snoc]
  rfl
theorem numR_of {l m : List UInt8} {b : Nat} (hne : l ≠ []) (hb : baseR l = (m, b)) : numR l = if digsR b m = true then some (valRIp b m) else none := by
  unfold numR
  rw [if_neg hne, hb]
/-- What number answers. -/
def NumPost (l : List UInt8) (w : World) (e : Ending) (w' : World) : Prop := e = .returned (.tuple #[.int .i64 (((numR l).getD 0 : Nat) : Int), .bool (numR l).isSome]) ∧ w' = w
theorem NumPost.no {l : List UInt8} {w : World} (h : numR l = none) : NumPost l w (.returned (.tuple #[.int .i64 0, .bool false])) w := by unfold NumPost; rw [h]; exact ⟨rfl, rfl⟩
theorem NumPost.yes {l : List UInt8} {w : World} {n : Nat} (h : numR l = some n) : NumPost l w (.returned (.tuple #[.int .i64 (n : Int), .bool true])) w := by unfold NumPost; rw [h]; exact ⟨rfl, rfl⟩
theorem base_hex {l : List UInt8} (h : hexR l = true) : baseR l = (l.drop 2, 16) := by unfold baseR; rw [if_pos h]
theorem base_oct {l : List UInt8} (h : hexR l = false) (h1 : 1 < l.length) (h2 : l.head? = some 48) : baseR l = (l.drop 1, 8) := by unfold baseR; rw [if_neg (by rw [h]; decide), if_pos ⟨h1, h2⟩]
theorem base_ten {l : List UInt8} (h : hexR l = false) (h1 : ¬ (1 < l.length ∧ l.head? = some 48)) : baseR l = (l, 10) := by unfold baseR; rw [if_neg (by rw [h]; decide), if_neg h1]
theorem hexR_two {s : ByteArray} (h : hexR s.data.toList = true) : 2 ≤ s.size := by
  by_cases h2 : 2 ≤ s.size
  · exact h2
  · rw [hexR_short h2] at h; cases h
theorem head_at {s : ByteArray} (h : 0 < s.size) : s.data.toList.head? = some s[0] := by
  have := bytes_at s 0 h
  rw [← this, List.head?_eq_getElem?]
end Go.Proofs.YtilamfbpbgcnpaaDoor
