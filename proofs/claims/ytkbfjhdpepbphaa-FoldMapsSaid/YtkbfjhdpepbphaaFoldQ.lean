/- Plain facts: the document's own Kind and To, and that the table says the same. -/
import Derived.Test.YtkbfjhdpepbphaaFoldV
namespace Go.Proofs.Ytkbfjhdpepbphaa
set_option linter.unusedVariables false
def win (c lo hi : Int) : Bool := decide (lo ≤ c) && decide (c ≤ hi)
theorem win_yes {c lo hi : Int} (h1 : lo ≤ c) (h2 : c ≤ hi) : win c lo hi = true := by simp [win, h1, h2]
theorem win_no {c lo hi : Int} (h : c < lo ∨ hi < c) : win c lo hi = false := by
  unfold win
  rcases h with h | h
  · rw [decide_eq_false (by omega)]; rfl
  · rw [decide_eq_false (p := c ≤ hi) (by omega), Bool.and_false]
/-- The sign that a letter becomes; 0: it becomes none. -/
def smallR (c : Int) : Int :=
  if win c 65 90 || (win c 192 222 && c != 215) || (win c 913 937 && c != 930) || win c 1040 1071 then c + 32
  else if win c 1024 1039 then c + 80
  else if c % 2 == 0 && ((win c 256 311 && c != 304) || win c 330 375) then c + 1
  else if c % 2 == 1 && (win c 313 328 || win c 377 382) then c + 1
  else if c == 376 then 255
  else if c == 383 then 115
  else 0
def toR (c : Int) : List Int :=
  if 0 < smallR c then [smallR c]
  else if c == 304 then [105, 775]
  else if c == 329 then [700, 110]
  else if c == 12290 || c == 65294 || c == 65377 then [46]
  else if win c 65281 65374 then [if smallR (c - 65248) == 0 then c - 65248 else smallR (c - 65248)]
  else if c == 170 then [97]
  else if c == 186 then [111]
  else if c == 178 || c == 179 then [c - 128]
  else if c == 185 then [49]
  else if win c 9312 9320 then [c - 9312 + 49]
  else if c == 8462 then [104]
  else []
def kindR (c : Int) : Int :=
  if c == 173 || c == 8203 || c == 8288 || win c 65024 65039 || c == 65279 then 3
  else if !isS c || win c 128 160 || win c 57344 63743 || win c 64976 65007 || decide (983040 ≤ c) || decide (65534 ≤ c % 65536) then 4
  else if 0 < (toR c).length then 2
  else 1
/-- What is said of one sign is the same. -/
def alike (c : Int) : Bool := kindOf c == kindR c && (kindR c != 2 || toOf c == toR c)
theorem alike_low : (List.range 1072).all (fun n => alike (n : Int)) = true := by decide +kernel
theorem alike_wide : (List.range 355).all (fun n => alike (65024 + (n : Int))) = true := by decide +kernel
theorem alike_some : [8203, 8288, 8462, 9312, 9313, 9314, 9315, 9316, 9317, 9318, 9319, 9320, 12290].all (fun n => alike n) = true := by decide +kernel
/-- Where no rule fits. -/
theorem rule_gap (lo hi : Int) (h : rules.all (fun r => decide (r.2.1 < lo) || decide (hi < r.1)) = true) {c : Int} (h1 : lo ≤ c) (h2 : c ≤ hi) (hb : barred c = false) : ruleOf c = (0, 0, false, 1, 0, 0) := by
  unfold ruleOf
  rw [hb, if_neg (by decide)]
  rw [List.find?_eq_none.2]
  · rfl
  · intro r hr
    have := List.all_eq_true.1 h r hr
    simp only [Bool.or_eq_true, decide_eq_true_eq] at this
    simp only [fitsR, Bool.and_eq_true, decide_eq_true_eq]
    omega
theorem small_high {c : Int} (h : 1072 ≤ c) : smallR c = 0 := by
  have h1 : (c == 376) = false := by rw [beq_eq_false_iff_ne]; omega
  have h2 : (c == 383) = false := by rw [beq_eq_false_iff_ne]; omega
  unfold smallR
  rw [win_no (by omega), win_no (by omega), win_no (by omega), win_no (by omega), win_no (by omega), win_no (by omega), win_no (by omega), win_no (by omega), win_no (by omega), h1, h2]
  simp
theorem to_high {c : Int} (h : 1072 ≤ c) (h1 : (c == 8462) = false) (h2 : win c 9312 9320 = false) (h3 : (c == 12290) = false) (h4 : (c == 65377) = false) (h5 : win c 65281 65374 = false) : toR c = [] := by
  have e1 : (c == 304) = false := by rw [beq_eq_false_iff_ne]; omega
  have e2 : (c == 329) = false := by rw [beq_eq_false_iff_ne]; omega
  have e3 : (c == 170) = false := by rw [beq_eq_false_iff_ne]; omega
  have e4 : (c == 186) = false := by rw [beq_eq_false_iff_ne]; omega
  have e5 : (c == 178) = false := by rw [beq_eq_false_iff_ne]; omega
  have e6 : (c == 179) = false := by rw [beq_eq_false_iff_ne]; omega
  have e7 : (c == 185) = false := by rw [beq_eq_false_iff_ne]; omega
  have e8 : (c == 65294) = false := by
    rw [beq_eq_false_iff_ne]; intro e; subst e; revert h5; decide
  unfold toR
  rw [small_high h, e1, e2, e3, e4, e5, e6, e7, e8, h1, h2, h3, h4, h5]
  rfl
theorem kind_mid {c : Int} (h : 1072 ≤ c) (h1 : (c == 8203) = false) (h2 : (c == 8288) = false) (h3 : win c 65024 65039 = false) (h4 : (c == 65279) = false) : kindR c = if !isS c || win c 57344 63743 || win c 64976 65007 || decide (983040 ≤ c) || decide (65534 ≤ c % 65536) then 4 else if 0 < (toR c).length then 2 else 1 := by
  have e1 : (c == 173) = false := by rw [beq_eq_false_iff_ne]; omega
  unfold kindR
  rw [e1, h1, h2, h3, h4, win_no (lo := 128) (by omega), Bool.or_false (!isS c)]
  rfl
theorem alike_of {c : Int} (h : kindOf c = kindR c) (h2 : kindR c ≠ 2) : alike c = true := by
  unfold alike
  rw [h, beq_self_eq_true, bne_iff_ne.2 h2]; rfl
theorem alike_gap (lo hi : Int) (h : rules.all (fun r => decide (r.2.1 < lo) || decide (hi < r.1)) = true) {c : Int} (h1 : lo ≤ c) (h2 : c ≤ hi) (hlo : 1072 ≤ lo)
    (g1 : 8203 < lo ∨ hi < 8203) (g2 : 8288 < lo ∨ hi < 8288) (g3 : 65039 < lo ∨ hi < 65024) (g4 : 65279 < lo ∨ hi < 65279) (g5 : 8462 < lo ∨ hi < 8462) (g6 : 9320 < lo ∨ hi < 9312) (g7 : 12290 < lo ∨ hi < 12290) (g8 : 65377 < lo ∨ hi < 65377) (g9 : 65374 < lo ∨ hi < 65281)
    (k1 : 63743 < lo ∨ hi < 57344) (k2 : 65007 < lo ∨ hi < 64976) (k3 : hi < 983040) : alike c = true := by
  cases hb : barred c with
  | true =>
    have hk := kind_barred hb
    have hR : kindR c = 4 := by
      rw [kind_mid (by omega) (by rw [beq_eq_false_iff_ne]; omega) (by rw [beq_eq_false_iff_ne]; omega) (win_no (by omega)) (by rw [beq_eq_false_iff_ne]; omega)]
      rw [if_pos]
      unfold barred at hb
      simp only [Bool.or_eq_true] at hb ⊢
      rcases hb with hb | hb
      · exact .inl (.inl (.inl (.inl hb)))
      · exact .inr hb
    exact alike_of (by rw [hk, hR]) (by rw [hR]; decide)
  | false =>
    have hk : kindOf c = 1 := by unfold kindOf; rw [rule_gap lo hi h h1 h2 hb]
    have hR : kindR c = 1 := by
      rw [kind_mid (by omega) (by rw [beq_eq_false_iff_ne]; omega) (by rw [beq_eq_false_iff_ne]; omega) (win_no (by omega)) (by rw [beq_eq_false_iff_ne]; omega)]
      unfold barred at hb
      simp only [Bool.or_eq_false_iff] at hb
      rw [hb.1, hb.2, win_no (by omega), win_no (by omega), decide_eq_false (by omega), to_high (by omega) (by rw [beq_eq_false_iff_ne]; omega) (win_no (by omega)) (by rw [beq_eq_false_iff_ne]; omega) (by rw [beq_eq_false_iff_ne]; omega) (win_no (by omega))]
      rfl
    exact alike_of (by rw [hk, hR]) (by rw [hR]; decide)
theorem alike_bad {c : Int} (h : 1072 ≤ c) (k : Nat) (hk : k < 34) (h4 : (rules.getD k (0, 0, false, 1, 0, 0)).2.2.2.1 = 4) (hf : barred c = false → (∀ r ∈ rules.take k, fitsR r c = false) ∧ fitsR (rules.getD k (0, 0, false, 1, 0, 0)) c = true)
    (g1 : c ≠ 8203) (g2 : c ≠ 8288) (g3 : 65039 < c ∨ c < 65024) (g4 : c ≠ 65279) (hR : win c 57344 63743 = true ∨ win c 64976 65007 = true ∨ 983040 ≤ c) : alike c = true := by
  have hkd : kindOf c = 4 := by
    cases hb : barred c with
    | true => exact kind_barred hb
    | false => unfold kindOf; rw [rule_found k c hb (hf hb).1 hk (hf hb).2, h4]
  have hRd : kindR c = 4 := by
    rw [kind_mid h (by rw [beq_eq_false_iff_ne]; exact g1) (by rw [beq_eq_false_iff_ne]; exact g2) (win_no (by omega)) (by rw [beq_eq_false_iff_ne]; exact g4), if_pos]
    simp only [Bool.or_eq_true, decide_eq_true_eq]
    rcases hR with x | x | x
    · exact .inl (.inl (.inl (.inr x)))
    · exact .inl (.inl (.inr x))
    · exact .inl (.inr x)
  exact alike_of (by rw [hkd, hRd]) (by rw [hRd]; decide)
theorem fits_out (lo hi : Int) (k : Nat) (h : (rules.take k).all (fun r => decide (r.2.1 < lo) || decide (hi < r.1)) = true) {c : Int} (h1 : lo ≤ c) (h2 : c ≤ hi) : ∀ r ∈ rules.take k, fitsR r c = false := by
  intro r hr
  have := List.all_eq_true.1 h r hr
  simp only [Bool.or_eq_true, decide_eq_true_eq] at this
  cases hq : fitsR r c with
  | false => rfl
  | true =>
    simp only [fitsR, Bool.and_eq_true, decide_eq_true_eq] at hq
    omega
theorem alike_none {c : Int} (h : isS c = false) : alike c = true := by
  have hb : barred c = true := by unfold barred; rw [h]; rfl
  have hn : ¬ (0 ≤ c ∧ c ≤ 1114111 ∧ (c < 55296 ∨ 57343 < c)) := fun g => by rw [isS_iff.2 g] at h; cases h
  have hR : kindR c = 4 := by
    unfold kindR
    rw [if_neg, if_pos]
    · rw [h]; rfl
    · simp only [Bool.or_eq_true, beq_iff_eq, win, Bool.and_eq_true, decide_eq_true_eq]
      omega
  exact alike_of (by rw [kind_barred hb, hR]) (by rw [hR]; decide)
theorem alike_all (c : Int) : alike c = true := by
  cases hs : isS c with
  | false => exact alike_none hs
  | true =>
    obtain ⟨h0, h1, h2⟩ := isS_iff.1 hs
    by_cases q1 : c < 1072
    · have := List.all_eq_true.1 alike_low c.toNat (List.mem_range.2 (by omega))
      rwa [show ((c.toNat : Nat) : Int) = c by omega] at this
    by_cases q2 : 65024 ≤ c ∧ c ≤ 65378
    · have := List.all_eq_true.1 alike_wide (c - 65024).toNat (List.mem_range.2 (by omega))
      rwa [show (65024 : Int) + (((c - 65024).toNat : Nat) : Int) = c by omega] at this
    by_cases q3 : c ∈ ([8203, 8288, 8462, 9312, 9313, 9314, 9315, 9316, 9317, 9318, 9319, 9320, 12290] : List Int)
    · exact List.all_eq_true.1 alike_some c q3
    simp only [List.mem_cons, List.not_mem_nil, or_false, not_or] at q3
    have hc : (1072 ≤ c ∧ c ≤ 8202) ∨ (8204 ≤ c ∧ c ≤ 8287) ∨ (8289 ≤ c ∧ c ≤ 8461) ∨ (8463 ≤ c ∧ c ≤ 9311) ∨ (9321 ≤ c ∧ c ≤ 12289) ∨ (12291 ≤ c ∧ c ≤ 57343) ∨ (57344 ≤ c ∧ c ≤ 63743) ∨ (63744 ≤ c ∧ c ≤ 64975) ∨ (64976 ≤ c ∧ c ≤ 65007) ∨ (65008 ≤ c ∧ c ≤ 65023) ∨ (65379 ≤ c ∧ c ≤ 983039) ∨ (983040 ≤ c ∧ c ≤ 1114111) := by omega
    clear q1 q2 q3 h0 h1 h2 hs
    rcases hc with ⟨a, b⟩ | ⟨a, b⟩ | ⟨a, b⟩ | ⟨a, b⟩ | ⟨a, b⟩ | ⟨a, b⟩ | ⟨a, b⟩ | ⟨a, b⟩ | ⟨a, b⟩ | ⟨a, b⟩ | ⟨a, b⟩ | ⟨a, b⟩
    · exact alike_gap 1072 8202 (by decide +kernel) a b (by decide) (by decide) (by decide) (by decide) (by decide) (by decide) (by decide) (by decide) (by decide) (by decide) (by decide) (by decide) (by decide)
    · exact alike_gap 8204 8287 (by decide +kernel) a b (by decide) (by decide) (by decide) (by decide) (by decide) (by decide) (by decide) (by decide) (by decide) (by decide) (by decide) (by decide) (by decide)
    · exact alike_gap 8289 8461 (by decide +kernel) a b (by decide) (by decide) (by decide) (by decide) (by decide) (by decide) (by decide) (by decide) (by decide) (by decide) (by decide) (by decide) (by decide)
    · exact alike_gap 8463 9311 (by decide +kernel) a b (by decide) (by decide) (by decide) (by decide) (by decide) (by decide) (by decide) (by decide) (by decide) (by decide) (by decide) (by decide) (by decide)
    · exact alike_gap 9321 12289 (by decide +kernel) a b (by decide) (by decide) (by decide) (by decide) (by decide) (by decide) (by decide) (by decide) (by decide) (by decide) (by decide) (by decide) (by decide)
    · exact alike_gap 12291 57343 (by decide +kernel) a b (by decide) (by decide) (by decide) (by decide) (by decide) (by decide) (by decide) (by decide) (by decide) (by decide) (by decide) (by decide) (by decide)
    · exact alike_bad (by omega) 6 (by decide) (by decide) (fun _ => ⟨fits_out 57344 63743 6 (by decide +kernel) a b, by simp [rules, fitsR]; omega⟩) (by omega) (by omega) (by omega) (by omega) (.inl (win_yes a b))
    · exact alike_gap 63744 64975 (by decide +kernel) a b (by decide) (by decide) (by decide) (by decide) (by decide) (by decide) (by decide) (by decide) (by decide) (by decide) (by decide) (by decide) (by decide)
    · exact alike_bad (by omega) 7 (by decide) (by decide) (fun _ => ⟨fits_out 64976 65007 7 (by decide +kernel) a b, by simp [rules, fitsR]; omega⟩) (by omega) (by omega) (by omega) (by omega) (.inr (.inl (win_yes a b)))
    · exact alike_gap 65008 65023 (by decide +kernel) a b (by decide) (by decide) (by decide) (by decide) (by decide) (by decide) (by decide) (by decide) (by decide) (by decide) (by decide) (by decide) (by decide)
    · exact alike_gap 65379 983039 (by decide +kernel) a b (by decide) (by decide) (by decide) (by decide) (by decide) (by decide) (by decide) (by decide) (by decide) (by decide) (by decide) (by decide) (by decide)
    · exact alike_bad (by omega) 8 (by decide) (by decide) (fun _ => ⟨fits_out 983040 1114111 8 (by decide +kernel) a b, by simp [rules, fitsR]; omega⟩) (by omega) (by omega) (by omega) (by omega) (.inr (.inr a))
theorem kind_alike (c : Int) : kindR c = kindOf c := by
  have := alike_all c
  unfold alike at this
  rw [Bool.and_eq_true] at this
  exact (eq_of_beq this.1).symm
theorem to_alike {c : Int} (h : kindOf c = 2) : toR c = toOf c := by
  have := alike_all c
  unfold alike at this
  rw [Bool.and_eq_true, Bool.or_eq_true] at this
  rcases this.2 with g | g
  · rw [kind_alike, h] at g; cases g
  · exact (eq_of_beq g).symm
end Go.Proofs.Ytkbfjhdpepbphaa
