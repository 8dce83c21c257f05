/- Queries, plain: written and read again. -/
import Derived.Test.YtilamfbpbgcnpaaDoorBuD
namespace Go.Proofs.YtilamfbpbgcnpaaDoor
open Go.RowKit Go.Shelf
set_option linter.unusedVariables false
set_option maxRecDepth 20000
def sp1 (c : UInt8) : UInt8 := if c = 43 then 32 else c
theorem repK (a b : UInt8) : ∀ (k : Nat) (s : List UInt8), s.count a = k → Lib.replaceK [a] [b] k s = s.map fun c => if c = a then b else c
  | 0, s, h => by
    have hn : ∀ x ∈ s, x ≠ a := fun x hx e => by subst e; exact absurd (List.count_eq_zero.1 h) (by simpa using hx)
    show s = _
    rw [show s.map (fun c => if c = a then b else c) = s.map id from List.map_congr_left fun x hx => if_neg (hn x hx), List.map_id]
  | k + 1, s, h => by
    have hm : a ∈ s := List.count_pos_iff.1 (by omega)
    rcases Int.lt_or_le (Lib.indexByte s a) 0 with hi | hi
    · have he : Lib.indexByte s a = -1 := by have := Lib.indexByte_ge s a; omega
      obtain ⟨j, hj⟩ := List.mem_iff_getElem?.1 hm
      exact absurd hj (Lib.indexByte_none he j)
    · obtain ⟨i, hk⟩ : ∃ i : Nat, Lib.indexByte s a = i := ⟨(Lib.indexByte s a).toNat, by omega⟩
      obtain ⟨h1, h2⟩ := Lib.indexByte_some hk
      have hs := at_parts h1
      have hf := take_free h2
      have hc : (s.drop (i + 1)).count a = k := by
        have h3 : s.count a = k + 1 := h
        rw [hs, List.count_append, List.count_cons_self, List.count_eq_zero.2 (fun hx => hf a hx rfl)] at h3
        omega
      have ih := repK a b k (s.drop (i + 1)) hc
      rw [Lib.replaceK_hit [a] [b] k s i (by rw [Lib.index_one]; exact hk)]
      show s.take i ++ [b] ++ Lib.replaceK [a] [b] k (s.drop (i + 1)) = _
      rw [ih]
      conv => rhs; rw [hs, List.map_append, List.map_cons, if_pos rfl]
      rw [show (s.take i).map (fun c => if c = a then b else c) = (s.take i).map id from List.map_congr_left fun x hx => if_neg (hf x hx), List.map_id]
      simp
theorem rep_map (s : List UInt8) : Lib.replaceAll s [43] [32] = s.map sp1 := by
  unfold Lib.replaceAll Lib.replace
  rw [if_neg (by decide)]
  unfold Lib.replaceNum
  rw [if_pos (Or.inl (by decide)), Lib.count_one]
  exact repK 43 32 _ s rfl
/-- What each byte is written as, one by one. -/
def fOk (c : UInt8) : Bool := match (encP 8 c).map sp1 with
  | [x] => x == c && c != 37
  | [x, a, b] => x == 37 && two a b == some c
  | _ => false
theorem fOk_all (c : UInt8) : fOk c = true ∧ (encP 8 c).all (fun x => x != 38 && x != 61) = true := by
  have h : (List.range 256).all (fun n => fOk (UInt8.ofNat n) && (encP 8 (UInt8.ofNat n)).all (fun x => x != 38 && x != 61)) = true := by decide +kernel
  have := List.all_eq_true.1 h c.toNat (by simpa using c.toNat_lt)
  rw [show UInt8.ofNat c.toNat = c by simp] at this
  simpa [Bool.and_eq_true] using this
theorem un_form : ∀ (b : List UInt8), unR ((pctR 8 b).map sp1) = b
  | [] => rfl
  | c :: b => by
    have ih := un_form b
    have h := (fOk_all c).1
    rw [pctR_cons, List.map_append]
    unfold fOk at h
    revert h
    generalize (encP 8 c).map sp1 = l
    intro h
    match l, h with
    | [x], h =>
      simp only [Bool.and_eq_true, beq_iff_eq, bne_iff_ne] at h
      obtain ⟨rfl, h2⟩ := h
      show unR (x :: (pctR 8 b).map sp1) = _
      rw [unR_plain h2, ih]
    | [x, y, z], h =>
      simp only [Bool.and_eq_true, beq_iff_eq] at h
      obtain ⟨rfl, h2⟩ := h
      show unR (37 :: y :: z :: (pctR 8 b).map sp1) = _
      rw [unR_two h2, ih]
theorem form_free (b : List UInt8) : ∀ x ∈ pctR 8 b, x ≠ 38 ∧ x ≠ 61 := by
  intro x hx
  obtain ⟨c, _, hc⟩ := List.mem_flatMap.1 hx
  have := List.all_eq_true.1 (fOk_all c).2 x hc
  simpa [Bool.and_eq_true] using this
/-- Is it UTF-8? -/
def U8 (x : List UInt8) : Prop := ∃ v, decL x = some v
theorem U8.enc {x : List UInt8} (h : U8 x) : ∃ v, v.all isS = true ∧ encL v = x := by
  obtain ⟨v, hv⟩ := h
  have := dec_some _ x v (Nat.le_refl _) hv
  exact ⟨v, this⟩
theorem fix_map : ∀ {l : List Int}, l.all isS = true → l.map fix = l
  | [], _ => rfl
  | c :: l, h => by
    simp only [List.all_cons, Bool.and_eq_true] at h
    rw [List.map_cons, fix_yes h.1, fix_map h.2]
theorem dec_app : ∀ (l : List Int) (r : List UInt8), l.all isS = true → decL (encL l ++ r) = (decL r).map (fun o => l ++ o)
  | [], r, _ => by rw [show encL [] = [] from rfl, List.nil_append]; cases decL r <;> rfl
  | c :: l, r, h => by
    simp only [List.all_cons, Bool.and_eq_true] at h
    have hc := isS_iff.1 h.1
    obtain ⟨n, rfl⟩ := Int.eq_ofNat_of_zero_le hc.1
    have e : encL ((n : Int) :: l) ++ r = encN n ++ (encL l ++ r) := by simp [encL]
    have q := next_enc n (encL l ++ r) h.1
    rw [e, dec_cons (enc_ne _ _) (by rw [q]), q]
    simp only [List.drop_left, dec_app l r h.2, Option.map_map]
    cases decL r <;> rfl
theorem U8.app {a b : List UInt8} (ha : U8 a) (hb : U8 b) : U8 (a ++ b) := by
  obtain ⟨v, h1, rfl⟩ := ha.enc
  obtain ⟨u, hu⟩ := hb
  exact ⟨v ++ u, by rw [dec_app v b h1, hu]; rfl⟩
theorem U8.right {a b : List UInt8} (ha : U8 a) (hab : U8 (a ++ b)) : U8 b := by
  obtain ⟨v, h1, rfl⟩ := ha.enc
  obtain ⟨u, hu⟩ := hab
  rw [dec_app v b h1] at hu
  obtain ⟨o, ho, _⟩ := Option.map_eq_some_iff.1 hu
  exact ⟨o, ho⟩
theorem text_isS {l : List Int} (h : l.all isS = true) : textL l = encL l := by unfold textL; rw [fix_map h]
theorem plain_U8 (x : List UInt8) : U8 (plainR x) := by
  have h := (lossy_all _ (unR (Lib.replaceAll x [43] [32])) (Nat.le_refl _)).1
  unfold plainR
  rw [text_isS h]
  exact ⟨_, dec_enc _ h⟩
theorem plain_back {x : List UInt8} (h : U8 x) : plainR (pctR 8 x) = x := by
  obtain ⟨v, h1, h2⟩ := h.enc
  unfold plainR
  rw [rep_map, un_form, ← h2]
  have := lossy_enc v [] h1
  rw [List.append_nil, lossy_nil, List.append_nil] at this
  rw [this, text_isS h1]
/-- One pair as a form writes it. -/
def oneR (p : Pr) : List UInt8 := pctR 8 p.1 ++ 61 :: pctR 8 p.2
def printR : List Pr → List UInt8
  | [] => []
  | [p] => oneR p
  | p :: q :: r => oneR p ++ 38 :: printR (q :: r)
theorem cut_at {a b : List UInt8} (h : ∀ x ∈ a, x ≠ 61) : Lib.cut (a ++ 61 :: b) [61] = (a, b, true) := by
  have hi : Lib.indexByte (a ++ 61 :: b) 61 = (a.length : Int) := by
    have hat : (a ++ 61 :: b)[a.length]? = some 61 := by simp
    rcases Int.lt_or_le (Lib.indexByte (a ++ 61 :: b) 61) 0 with hi | hi
    · have he : Lib.indexByte (a ++ 61 :: b) 61 = -1 := by have := Lib.indexByte_ge (a ++ 61 :: b) 61; omega
      exact absurd hat (Lib.indexByte_none he _)
    · obtain ⟨k, hk⟩ : ∃ k : Nat, Lib.indexByte (a ++ 61 :: b) 61 = k := ⟨(Lib.indexByte (a ++ 61 :: b) 61).toNat, by omega⟩
      obtain ⟨h1, h2⟩ := Lib.indexByte_some hk
      rw [hk]
      rcases Nat.lt_trichotomy k a.length with hlt | rfl | hgt
      · rw [List.getElem?_append_left hlt] at h1
        exact absurd rfl (h 61 (List.mem_of_getElem? h1))
      · rfl
      · exact absurd hat (h2 _ hgt)
  unfold Lib.cut
  rw [Lib.index_one, hi, if_pos (by omega)]
  simp
theorem one_free (p : Pr) : ∀ x ∈ oneR p, x ≠ 38 := by
  intro x hx
  rcases List.mem_append.1 hx with h | h
  · exact (form_free _ x h).1
  · rcases List.mem_cons.1 h with rfl | h
    · decide
    · exact (form_free _ x h).1
theorem one_back {p : Pr} (h1 : U8 p.1) (h2 : U8 p.2) : pairR (oneR p) = p := by
  unfold pairR oneR
  rw [cut_at (fun x hx => (form_free _ x hx).2), plain_back h1, plain_back h2]
theorem some1_one (p : Pr) : some1 (splitR 38 (oneR p)) = [oneR p] := by
  unfold splitR
  rw [splitG_free _ _ (one_free p), List.nil_append]
  have : oneR p ≠ [] := by unfold oneR; simp
  unfold some1
  rw [List.filter_cons_of_pos (by simpa using this)]; rfl
theorem cnt_print : ∀ (l : List Pr), cntR (printR l) = l.length
  | [] => rfl
  | [p] => by show cntR (oneR p) = 1; unfold cntR; rw [some1_one]; rfl
  | p :: q :: r => by
    have ih := cnt_print (q :: r)
    show cntR (oneR p ++ 38 :: printR (q :: r)) = _
    rw [cnt_app, ih]
    unfold cntR; rw [some1_one]; simp; omega
theorem prs_print : ∀ (l : List Pr), (∀ p ∈ l, U8 p.1 ∧ U8 p.2) → prsR (printR l) = l
  | [], _ => rfl
  | [p], h => by
    show prsR (oneR p) = _
    unfold prsR curP; rw [some1_one, List.map_cons, one_back (h p (by simp)).1 (h p (by simp)).2]; rfl
  | p :: q :: r, h => by
    have ih := prs_print (q :: r) (fun x hx => h x (List.mem_cons_of_mem _ hx))
    show prsR (oneR p ++ 38 :: printR (q :: r)) = _
    rw [prs_app, ih]
    unfold prsR curP; rw [some1_one, List.map_cons, one_back (h p (by simp)).1 (h p (by simp)).2]; rfl
theorem prs_U8 (s : List UInt8) : ∀ p ∈ prsR s, U8 p.1 ∧ U8 p.2 := by
  intro p hp
  obtain ⟨x, _, rfl⟩ := List.mem_map.1 hp
  exact ⟨plain_U8 _, plain_U8 _⟩
theorem print_snoc : ∀ (l : List Pr) (p : Pr), printR (l ++ [p]) = if l = [] then oneR p else printR l ++ 38 :: oneR p
  | [], p => rfl
  | [a], p => rfl
  | a :: b :: r, p => by
    have ih := print_snoc (b :: r) p
    rw [if_neg (by simp)] at ih
    rw [if_neg (by simp)]
    show oneR a ++ 38 :: printR (b :: r ++ [p]) = _
    rw [ih]
    show _ = (oneR a ++ 38 :: printR (b :: r)) ++ 38 :: oneR p
    simp
/-- Signs '&' ahead and behind tell nothing. -/
theorem prs_ands : ∀ (n : Nat) (s : List UInt8), prsR (List.replicate n 38 ++ s) = prsR s ∧ cntR (List.replicate n 38 ++ s) = cntR s
  | 0, s => ⟨rfl, rfl⟩
  | n + 1, s => by
    have ih := prs_ands n s
    have h1 := prs_app [] (List.replicate n 38 ++ s)
    have h2 := cnt_app [] (List.replicate n 38 ++ s)
    rw [List.nil_append] at h1 h2
    rw [List.replicate_succ, List.cons_append, h1, h2, ih.1, ih.2]
    exact ⟨rfl, by show 0 + _ = _; omega⟩
theorem prs_behind : ∀ (n : Nat) (s : List UInt8), prsR (s ++ List.replicate n 38) = prsR s ∧ cntR (s ++ List.replicate n 38) = cntR s
  | 0, s => by rw [List.replicate_zero, List.append_nil]; exact ⟨rfl, rfl⟩
  | n + 1, s => by
    have ih := prs_ands n []
    rw [List.append_nil] at ih
    rw [List.replicate_succ, prs_app, cnt_app, ih.1, ih.2]
    exact ⟨by show prsR s ++ [] = _; simp, by show _ + 0 = _; omega⟩
end Go.Proofs.YtilamfbpbgcnpaaDoor
