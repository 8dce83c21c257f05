/- Punycode's two ways, as plain functions of lists; there and back. -/
import Derived.Test.YtpjajiilgojbgaaPunyP
namespace Go.Proofs.Ytpjajiilgojbgaa
set_option linter.unusedVariables false
/-- The least from a bound on. -/
def lstF (a from_ : Nat) (l : List Nat) : Nat := l.foldl (fun a c => if from_ ≤ c then min a c else a) a
theorem lstF_le : ∀ (l : List Nat) (a n : Nat), lstF a n l ≤ a
  | [], a, n => Nat.le_refl _
  | c :: l, a, n => by
    show lstF (if n ≤ c then min a c else a) n l ≤ a
    refine Nat.le_trans (lstF_le l _ n) ?_
    split
    · exact Nat.min_le_left _ _
    · exact Nat.le_refl _
theorem lstF_all : ∀ (l : List Nat) (a n c : Nat), c ∈ l → n ≤ c → lstF a n l ≤ c
  | [], a, n, c, h, _ => by cases h
  | d :: l, a, n, c, h, hn => by
    show lstF (if n ≤ d then min a d else a) n l ≤ c
    rcases List.mem_cons.1 h with rfl | h
    · rw [if_pos hn]
      exact Nat.le_trans (lstF_le l _ n) (Nat.min_le_right _ _)
    · exact lstF_all l _ n c h hn
theorem lstF_mem : ∀ (l : List Nat) (a n : Nat), lstF a n l = a ∨ (lstF a n l ∈ l ∧ n ≤ lstF a n l)
  | [], a, n => .inl rfl
  | d :: l, a, n => by
    show lstF (if n ≤ d then min a d else a) n l = a ∨ (lstF (if n ≤ d then min a d else a) n l ∈ d :: l ∧ n ≤ lstF (if n ≤ d then min a d else a) n l)
    rcases lstF_mem l (if n ≤ d then min a d else a) n with h | ⟨h1, h2⟩
    · rw [h]
      split
      · rename_i hd
        rcases Nat.le_total a d with g | g
        · left; exact Nat.min_eq_left g
        · right; rw [Nat.min_eq_right g]; exact ⟨List.mem_cons_self, hd⟩
      · exact .inl rfl
    · exact .inr ⟨List.mem_cons_of_mem _ h1, h2⟩
/-- Above all of l the start does not count. -/
theorem lstF_start (l : List Nat) (a b n : Nat) (ha : ∀ c ∈ l, c < a) (hb : ∀ c ∈ l, c < b) (h : ∃ c ∈ l, n ≤ c) : lstF a n l = lstF b n l := by
  obtain ⟨c, hc, hn⟩ := h
  have a1 := lstF_all l a n c hc hn
  have b1 := lstF_all l b n c hc hn
  have ac := ha c hc
  have bc := hb c hc
  rcases lstF_mem l a n with g | ⟨g1, g2⟩
  · omega
  · rcases lstF_mem l b n with k | ⟨k1, k2⟩
    · omega
    · have := lstF_all l a n _ k1 k2
      have := lstF_all l b n _ g1 g2
      omega
def least (l : List Nat) (n : Nat) : Nat := lstF 2147483647 n l
/-- One round over the list: the digits that it writes, and the steps, the bias, how many are done. -/
def scanD (s plain : Nat) : List Nat → Nat → Nat → Nat → List Nat × Nat × Nat × Nat
  | [], delta, bias, done => ([], delta, bias, done)
  | c :: r, delta, bias, done =>
    if c < s then scanD s plain r (delta + 1) bias done
    else if c = s then
      let x := scanD s plain r 0 (adapt delta (done + 1) (decide (done = plain))) (done + 1)
      (num bias delta ++ x.1, x.2)
    else scanD s plain r delta bias done
theorem scanD_lt {s plain : Nat} {c : Nat} {r : List Nat} {delta bias done : Nat} (h : c < s) : scanD s plain (c :: r) delta bias done = scanD s plain r (delta + 1) bias done := by
  simp only [scanD]; rw [if_pos h]
theorem scanD_eq {s plain : Nat} {r : List Nat} {delta bias done : Nat} : scanD s plain (s :: r) delta bias done = (num bias delta ++ (scanD s plain r 0 (adapt delta (done + 1) (decide (done = plain))) (done + 1)).1, (scanD s plain r 0 (adapt delta (done + 1) (decide (done = plain))) (done + 1)).2) := by
  simp only [scanD]; rw [if_neg (by omega), if_true]
theorem scanD_gt {s plain : Nat} {c : Nat} {r : List Nat} {delta bias done : Nat} (h : s < c) : scanD s plain (c :: r) delta bias done = scanD s plain r delta bias done := by
  simp only [scanD]; rw [if_neg (by omega), if_neg (by omega)]
def encD (l : List Nat) (plain : Nat) : Nat → Nat → Nat → Nat → Nat → List Nat
  | 0, delta, bias, from_, done => []
  | f + 1, delta, bias, from_, done =>
    if done < l.length then
      let s := least l from_
      let x := scanD s plain l (delta + (s - from_) * (done + 1)) bias done
      x.1 ++ encD l plain f (x.2.1 + 1) x.2.2.1 (s + 1) x.2.2.2
    else []
theorem encD_stop (l : List Nat) (plain f delta bias n done : Nat) (h : l.length ≤ done) : encD l plain f delta bias n done = [] := by
  cases f with
  | zero => rfl
  | succ f => unfold encD; rw [if_neg (by omega)]
/-- What scanD leaves. -/
theorem scanD_done (s plain : Nat) : ∀ (r : List Nat) (delta bias done : Nat), (scanD s plain r delta bias done).2.2.2 = done + r.countP (· == s)
  | [], delta, bias, done => rfl
  | c :: r, delta, bias, done => by
    rcases Nat.lt_trichotomy c s with h | h | h
    · rw [scanD_lt h, scanD_done s plain r]
      rw [List.countP_cons_of_neg (by simp; omega)]
    · subst h
      rw [scanD_eq]
      show (scanD c plain r 0 _ (done + 1)).2.2.2 = _
      rw [scanD_done c plain r, List.countP_cons_of_pos (by simp)]
      omega
    · rw [scanD_gt h, scanD_done s plain r]
      rw [List.countP_cons_of_neg (by simp; omega)]
theorem scanD_delta (s plain : Nat) : ∀ (r : List Nat) (delta bias done : Nat), (scanD s plain r delta bias done).2.1 ≤ delta + r.length
  | [], delta, bias, done => Nat.le_refl _
  | c :: r, delta, bias, done => by
    rcases Nat.lt_trichotomy c s with h | h | h
    · rw [scanD_lt h]; have := scanD_delta s plain r (delta + 1) bias done; simp; omega
    · subst h
      rw [scanD_eq]
      show (scanD c plain r 0 _ (done + 1)).2.1 ≤ _
      have := scanD_delta c plain r 0 (adapt delta (done + 1) (decide (done = plain))) (done + 1); simp; omega
    · rw [scanD_gt h]; have := scanD_delta s plain r delta bias done; simp; omega
theorem scanD_bias (s plain : Nat) : ∀ (r : List Nat) (delta bias done : Nat), bias ≤ 2340 → (scanD s plain r delta bias done).2.2.1 ≤ 2340
  | [], delta, bias, done, h => h
  | c :: r, delta, bias, done, hb => by
    rcases Nat.lt_trichotomy c s with h | h | h
    · rw [scanD_lt h]; exact scanD_bias s plain r _ _ _ hb
    · subst h
      rw [scanD_eq]
      exact scanD_bias c plain r _ _ _ (adapt_le _ _ _)
    · rw [scanD_gt h]; exact scanD_bias s plain r _ _ _ hb
theorem scanD_lens (s plain : Nat) : ∀ (r : List Nat) (delta bias done : Nat), (scanD s plain r delta bias done).1.length ≤ 65 * r.countP (· == s)
  | [], delta, bias, done => by simp [scanD]
  | c :: r, delta, bias, done => by
    rcases Nat.lt_trichotomy c s with h | h | h
    · rw [scanD_lt h, List.countP_cons_of_neg (by simp; omega)]; exact scanD_lens s plain r _ _ _
    · subst h
      rw [scanD_eq, List.countP_cons_of_pos (by simp)]
      have := scanD_lens c plain r 0 (adapt delta (done + 1) (decide (done = plain))) (done + 1)
      have h2 := (numF_len 64 36 bias delta).2
      simp only [List.length_append, num]
      omega
    · rw [scanD_gt h, List.countP_cons_of_neg (by simp; omega)]; exact scanD_lens s plain r _ _ _
theorem scanD_digits (s plain : Nat) : ∀ (r : List Nat) (delta bias done : Nat), ∀ d ∈ (scanD s plain r delta bias done).1, d < 36
  | [], delta, bias, done => by intro d hd; simp [scanD] at hd
  | c :: r, delta, bias, done => by
    rcases Nat.lt_trichotomy c s with h | h | h
    · rw [scanD_lt h]; exact scanD_digits s plain r _ _ _
    · subst h
      rw [scanD_eq]
      intro d hd
      rcases List.mem_append.1 hd with g | g
      · exact numF_lt _ _ _ _ d g
      · exact scanD_digits c plain r _ _ _ d g
    · rw [scanD_gt h]; exact scanD_digits s plain r _ _ _
theorem encD_digits (l : List Nat) (plain : Nat) : ∀ (f delta bias n done : Nat), ∀ d ∈ encD l plain f delta bias n done, d < 36
  | 0, delta, bias, n, done => by intro d hd; simp [encD] at hd
  | f + 1, delta, bias, n, done => by
    unfold encD
    split
    · intro d hd
      rcases List.mem_append.1 hd with g | g
      · exact scanD_digits _ _ _ _ _ _ d g
      · exact encD_digits l plain f _ _ _ _ d g
    · intro d hd; cases hd
theorem countP_le_least {l : List Nat} {n s : Nat} (hs : ∀ c ∈ l, n ≤ c → s ≤ c) (hns : n ≤ s) : l.countP (· < s) = l.countP (· < n) := by
  refine List.countP_congr fun c hc => ?_
  simp only [decide_eq_true_eq]
  have := hs c hc
  omega
theorem countP_next (l : List Nat) (s : Nat) : l.countP (· < s + 1) = l.countP (· < s) + l.countP (· == s) := by
  induction l with
  | nil => rfl
  | cons c l ih =>
    simp only [List.countP_cons, ih]
    simp only [decide_eq_true_eq, beq_iff_eq]
    split <;> split <;> split <;> omega
/-- There is one more to do: then the least from n on is one of them. -/
theorem least_spec {l : List Nat} {n : Nat} (hl : ∀ c ∈ l, c ≤ 1114111) (hd : l.countP (· < n) < l.length) : least l n ∈ l ∧ n ≤ least l n ∧ least l n ≤ 1114111 ∧ ∀ c ∈ l, n ≤ c → least l n ≤ c := by
  obtain ⟨c, hc, hn⟩ : ∃ c ∈ l, n ≤ c := by
    rcases Classical.em (∃ c ∈ l, n ≤ c) with h | h
    · exact h
    · exfalso
      have : l.countP (· < n) = l.length := by
        rw [List.countP_eq_length]
        intro c hc
        simp only [decide_eq_true_eq]
        rcases Nat.lt_or_ge c n with g | g
        · exact g
        · exact absurd ⟨c, hc, g⟩ h
      omega
  have h1 := lstF_all l 2147483647 n c hc hn
  have h2 := hl c hc
  rcases lstF_mem l 2147483647 n with g | ⟨g1, g2⟩
  · omega
  · exact ⟨g1, g2, hl _ g1, fun c hc hn => lstF_all l _ n c hc hn⟩

/-- Puts in the signs that digits tell. -/
def insF : Nat → List Nat → List (Option Nat) → Nat → Nat → Nat → Bool → Option (List Nat)
  | 0, out, ds, sign, at_, bias, first => if ds = [] then some out else none
  | f + 1, out, ds, sign, at_, bias, first =>
    if ds = [] then some out
    else if 256 ≤ out.length then none
    else match rd ds at_ 1 36 bias with
      | none => none
      | some (to, rest) =>
        if isS ((sign + to / (out.length + 1) : Nat) : Int) = true then
          insF f (out.take (to % (out.length + 1)) ++ (sign + to / (out.length + 1)) :: out.drop (to % (out.length + 1))) rest (sign + to / (out.length + 1)) (to % (out.length + 1) + 1) (adapt (to - at_) (out.length + 1) first) false
        else none
theorem insF_succ (f : Nat) (out : List Nat) (ds : List (Option Nat)) (sign at_ bias : Nat) (first : Bool) : insF (f + 1) out ds sign at_ bias first =
    if ds = [] then some out
    else if 256 ≤ out.length then none
    else match rd ds at_ 1 36 bias with
      | none => none
      | some (to, rest) =>
        if isS ((sign + to / (out.length + 1) : Nat) : Int) = true then
          insF f (out.take (to % (out.length + 1)) ++ (sign + to / (out.length + 1)) :: out.drop (to % (out.length + 1))) rest (sign + to / (out.length + 1)) (to % (out.length + 1) + 1) (adapt (to - at_) (out.length + 1) first) false
        else none := rfl
theorem insF_nil (f : Nat) (out : List Nat) (s a b : Nat) (fl : Bool) : insF f out [] s a b fl = some out := by cases f <;> simp [insF]
/-- One sign is told and put in. -/
theorem insF_step {f : Nat} {out A B : List Nat} {s p nd id delta bias : Nat} {fl : Bool} {T : List (Option Nat)} (ho : out = A ++ B) (hA : A.length = p) (hlen : out.length < 256) (hs : isS (s : Int) = true)
    (heq : nd * (out.length + 1) + id + delta = s * (out.length + 1) + p) (hnd : nd ≤ s) (hid : id ≤ out.length) :
    insF (f + 1) out ((num bias delta).map some ++ T) nd id bias fl = insF f (A ++ s :: B) T s (p + 1) (adapt delta (out.length + 1) fl) false := by
  have hs1 : s ≤ 1114111 := by have := isS_iff.1 hs; omega
  have hp : p ≤ out.length := by rw [ho]; simp; omega
  obtain ⟨m, rfl⟩ : ∃ m, s = nd + m := ⟨s - nd, by omega⟩
  have hto : id + delta = m * (out.length + 1) + p := by rw [Nat.add_mul] at heq; omega
  have hm : m * (out.length + 1) ≤ 1114111 * 256 := Nat.mul_le_mul (by omega) (by omega)
  have hne : ¬ ((num bias delta).map some ++ T = []) := by
    have := (numF_len 64 36 bias delta).1
    intro h
    have h2 := congrArg List.length h
    rw [List.length_append, List.length_map] at h2
    simp only [List.length_nil, num] at h2
    omega
  rw [insF_succ, if_neg hne, if_neg (by omega), rd_back bias delta id T (by omega)]
  have e1 : (id + delta) / (out.length + 1) = m := by rw [hto, Nat.add_comm, Nat.add_mul_div_right _ _ (by omega), Nat.div_eq_of_lt (by omega)]; omega
  have e2 : (id + delta) % (out.length + 1) = p := by rw [hto, Nat.add_comm, Nat.add_mul_mod_self_right, Nat.mod_eq_of_lt (by omega)]
  have e3 : id + delta - id = delta := by omega
  simp only [e1, e2, e3]
  rw [if_pos hs]
  have t1 : out.take p = A := by rw [ho, ← hA]; exact List.take_left
  have t2 : out.drop p = B := by rw [ho, ← hA]; exact List.drop_left
  rw [t1, t2]
theorem filter_le_len (l : List Nat) (p : Nat → Bool) : (l.filter p).length ≤ l.length := List.length_filter_le _ _
/-- A round over the list, read back. -/
theorem scan_back (s plain : Nat) (hs : isS (s : Int) = true) (T : List (Option Nat)) : ∀ (r p : List Nat) (delta bias nd id f : Nat), (p ++ r).length ≤ 256 → nd ≤ s → id ≤ (p.filter (· ≤ s) ++ r.filter (· < s)).length →
    plain ≤ (p.filter (· ≤ s) ++ r.filter (· < s)).length →
    nd * ((p.filter (· ≤ s) ++ r.filter (· < s)).length + 1) + id + delta = s * ((p.filter (· ≤ s) ++ r.filter (· < s)).length + 1) + (p.filter (· ≤ s)).length →
    ((scanD s plain r delta bias (p.filter (· ≤ s) ++ r.filter (· < s)).length).1.map some ++ T).length ≤ f →
    ∃ nd' id' f', insF f (p.filter (· ≤ s) ++ r.filter (· < s)) ((scanD s plain r delta bias (p.filter (· ≤ s) ++ r.filter (· < s)).length).1.map some ++ T) nd id bias (decide ((p.filter (· ≤ s) ++ r.filter (· < s)).length = plain))
        = insF f' ((p ++ r).filter (· ≤ s)) T nd' id' (scanD s plain r delta bias (p.filter (· ≤ s) ++ r.filter (· < s)).length).2.2.1 (decide (((p ++ r).filter (· ≤ s)).length = plain)) ∧
      nd' ≤ s ∧ id' ≤ ((p ++ r).filter (· ≤ s)).length ∧ T.length ≤ f' ∧
      nd' * (((p ++ r).filter (· ≤ s)).length + 1) + id' + (scanD s plain r delta bias (p.filter (· ≤ s) ++ r.filter (· < s)).length).2.1 = s * (((p ++ r).filter (· ≤ s)).length + 1) + ((p ++ r).filter (· ≤ s)).length ∧
      (scanD s plain r delta bias (p.filter (· ≤ s) ++ r.filter (· < s)).length).2.2.2 = ((p ++ r).filter (· ≤ s)).length
  | [], p, delta, bias, nd, id, f, hl, hnd, hid, hpl, heq, hf => by
    simp only [List.append_nil, List.filter_nil, scanD, List.map_nil, List.nil_append] at *
    exact ⟨nd, id, f, rfl, hnd, hid, hf, heq, trivial⟩
  | c :: r, p, delta, bias, nd, id, f, hl, hnd, hid, hpl, heq, hf => by
    have happ : p ++ c :: r = (p ++ [c]) ++ r := by simp
    rw [happ] at hl ⊢
    rcases Nat.lt_trichotomy c s with h | h | h
    · have e1 : (p ++ [c]).filter (· ≤ s) = p.filter (· ≤ s) ++ [c] := by rw [List.filter_append]; simp; omega
      have e2 : (c :: r).filter (· < s) = c :: r.filter (· < s) := by rw [List.filter_cons_of_pos (by simpa using h)]
      have e3 : p.filter (· ≤ s) ++ (c :: r).filter (· < s) = (p ++ [c]).filter (· ≤ s) ++ r.filter (· < s) := by rw [e1, e2]; simp
      rw [scanD_lt h] at hf ⊢
      rw [e3] at hid hpl heq hf ⊢
      exact scan_back s plain hs T r (p ++ [c]) (delta + 1) bias nd id f hl hnd hid hpl (by rw [show ((p ++ [c]).filter (· ≤ s)).length = (p.filter (· ≤ s)).length + 1 by rw [e1]; simp]; omega) hf
    · subst h
      have e1 : (p ++ [c]).filter (· ≤ c) = p.filter (· ≤ c) ++ [c] := by rw [List.filter_append]; simp
      have e2 : (c :: r).filter (· < c) = r.filter (· < c) := by rw [List.filter_cons_of_neg (by simp)]
      have e3 : (p ++ [c]).filter (· ≤ c) ++ r.filter (· < c) = p.filter (· ≤ c) ++ c :: r.filter (· < c) := by rw [e1]; simp
      have e4 : ((p ++ [c]).filter (· ≤ c) ++ r.filter (· < c)).length = (p.filter (· ≤ c) ++ r.filter (· < c)).length + 1 := by rw [e3]; simp; omega
      have hlt : (p.filter (· ≤ c) ++ r.filter (· < c)).length < 256 := by
        have h1 := filter_le_len p (· ≤ c)
        have h2 := filter_le_len r (· < c)
        simp at hl h1 h2 ⊢; omega
      rw [e2] at hid hpl heq hf ⊢
      rw [scanD_eq] at hf ⊢
      have ha : ∀ X : List Nat, (num bias delta ++ X).map some ++ T = (num bias delta).map some ++ (X.map some ++ T) := fun X => by simp
      simp only [ha] at hf ⊢
      obtain ⟨g, rfl⟩ : ∃ g, f = g + 1 := by
        have := (numF_len 64 36 bias delta).1
        simp only [List.length_append, List.length_map, num] at hf
        exact ⟨f - 1, by omega⟩
      rw [insF_step (s := c) rfl rfl hlt hs heq hnd hid]
      rw [← e3]
      have hx := scan_back c plain hs T r (p ++ [c]) 0 (adapt delta ((p.filter (· ≤ c) ++ r.filter (· < c)).length + 1) (decide ((p.filter (· ≤ c) ++ r.filter (· < c)).length = plain))) c ((p.filter (· ≤ c)).length + 1) g hl (Nat.le_refl _)
        (by rw [e4]; simp) (by rw [e4]; omega) (by rw [show ((p ++ [c]).filter (· ≤ c)).length = (p.filter (· ≤ c)).length + 1 by rw [e1]; simp]; omega)
        (by rw [e4]
            have := (numF_len 64 36 bias delta).1
            simp only [List.length_append, List.length_map, num] at hf ⊢
            omega)
      rw [e4] at hx
      rw [show decide ((p.filter (· ≤ c) ++ r.filter (· < c)).length + 1 = plain) = false from decide_eq_false (by omega)] at hx
      exact hx
    · have e1 : (p ++ [c]).filter (· ≤ s) = p.filter (· ≤ s) := by rw [List.filter_append]; simp; omega
      have e2 : (c :: r).filter (· < s) = r.filter (· < s) := by rw [List.filter_cons_of_neg (by simp; omega)]
      have e3 : p.filter (· ≤ s) ++ (c :: r).filter (· < s) = (p ++ [c]).filter (· ≤ s) ++ r.filter (· < s) := by rw [e1, e2]
      rw [scanD_gt h] at hf ⊢
      rw [e3] at hid hpl heq hf ⊢
      exact scan_back s plain hs T r (p ++ [c]) delta bias nd id f hl hnd hid hpl (by rw [e1] at heq ⊢; exact heq) hf
theorem filter_all {l : List Nat} {n : Nat} (h : l.length ≤ (l.filter (· < n)).length) : l.filter (· < n) = l := by
  refine List.filter_eq_self.2 ?_
  have := List.length_filter_eq_length_iff (p := fun c => decide (c < n)) (l := l)
  exact this.1 (Nat.le_antisymm (List.length_filter_le _ _) h)
/-- All rounds, read back. -/
theorem enc_back (l : List Nat) (plain : Nat) (hl : l.length ≤ 256) (hS : ∀ c ∈ l, isS (c : Int) = true) : ∀ (g n delta bias nd id f : Nat), l.length ≤ (l.filter (· < n)).length + g → nd ≤ n → id ≤ (l.filter (· < n)).length → plain ≤ (l.filter (· < n)).length →
    nd * ((l.filter (· < n)).length + 1) + id + delta = n * ((l.filter (· < n)).length + 1) →
    ((encD l plain g delta bias n (l.filter (· < n)).length).map some).length ≤ f →
    insF f (l.filter (· < n)) ((encD l plain g delta bias n (l.filter (· < n)).length).map some) nd id bias (decide ((l.filter (· < n)).length = plain)) = some l
  | 0, n, delta, bias, nd, id, f, hg, hnd, hid, hpl, heq, hf => by
    rw [filter_all (by omega)]
    exact insF_nil _ _ _ _ _ _
  | g + 1, n, delta, bias, nd, id, f, hg, hnd, hid, hpl, heq, hf => by
    by_cases hlt : (l.filter (· < n)).length < l.length
    · have hU : ∀ c ∈ l, c ≤ 1114111 := fun c hc => by have := isS_iff.1 (hS c hc); omega
      have hsp := least_spec (n := n) hU (by rw [List.countP_eq_length_filter]; exact hlt)
      unfold encD at hf ⊢
      rw [if_pos hlt] at hf ⊢
      simp only at hf ⊢
      generalize least l n = s at *
      obtain ⟨s1, s2, s3, s4⟩ := hsp
      have e0 : l.filter (· < s) = l.filter (· < n) := by
        refine List.filter_congr fun c hc => ?_
        have := s4 c hc
        by_cases hcn : c < n
        · simp; omega
        · simp [hcn]; omega
      have e5 : l.filter (· ≤ s) = l.filter (· < s + 1) := by
        refine List.filter_congr fun c hc => ?_
        simp; omega
      rw [List.map_append] at hf ⊢
      obtain ⟨m, rfl⟩ : ∃ m, s = n + m := ⟨s - n, by omega⟩
      have e6 : n + m - n = m := by omega
      rw [e6] at hf ⊢
      have hx := scan_back (n + m) plain (hS _ s1)
        ((encD l plain g ((scanD (n + m) plain l (delta + m * ((l.filter (· < n)).length + 1)) bias (l.filter (· < n)).length).2.1 + 1) (scanD (n + m) plain l (delta + m * ((l.filter (· < n)).length + 1)) bias (l.filter (· < n)).length).2.2.1 (n + m + 1) (scanD (n + m) plain l (delta + m * ((l.filter (· < n)).length + 1)) bias (l.filter (· < n)).length).2.2.2).map some)
        l [] (delta + m * ((l.filter (· < n)).length + 1)) bias nd id f (by simpa using hl) (by omega)
      simp only [List.filter_nil, List.nil_append, e0, List.length_nil, Nat.add_zero] at hx
      obtain ⟨nd', id', f', h1, h2, h3, h4, h5, h6⟩ := hx hid hpl (by rw [Nat.add_mul]; omega) hf
      rw [h1]
      simp only [e5] at h3 h5 h6 ⊢
      rw [h6] at h4 ⊢
      have hgrow : (l.filter (· < n)).length < (l.filter (· < n + m + 1)).length := by
        have k1 := countP_next l (n + m)
        have k2 : 0 < l.countP (· == n + m) := List.countP_pos_iff.2 ⟨_, s1, by simp⟩
        rw [List.countP_eq_length_filter, List.countP_eq_length_filter (p := fun x => decide (x < n + m)), e0] at k1
        omega
      exact enc_back l plain hl hS g (n + m + 1) _ _ nd' id' f' (by omega) (by omega) h3 (by omega) (by rw [Nat.add_mul (n + m) 1]; omega) h4
    · have hz := filter_all (n := n) (l := l) (by omega)
      rw [encD_stop _ _ _ _ _ _ _ (by omega), hz]
      exact insF_nil _ _ _ _ _ _
end Go.Proofs.Ytpjajiilgojbgaa
