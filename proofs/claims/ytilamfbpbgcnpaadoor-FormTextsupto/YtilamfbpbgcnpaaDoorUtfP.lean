/- Plain facts of UTF-8: signs as bytes, bytes as signs. Nothing of the program. -/
import Derived.Laws.BitsAllLaws
namespace Go.Proofs.YtilamfbpbgcnpaaDoor
set_option linter.unusedVariables false
set_option maxRecDepth 20000

/-- Is it the number of a sign? -/
def isS (c : Int) : Bool := decide (0 ≤ c ∧ c ≤ 1114111 ∧ (c < 55296 ∨ 57343 < c))
theorem isS_iff {c : Int} : isS c = true ↔ (0 ≤ c ∧ c ≤ 1114111 ∧ (c < 55296 ∨ 57343 < c)) := by simp [isS]
def b8 (n : Nat) : UInt8 := UInt8.ofNat n
theorem b8_nat (n : Nat) (h : n < 256) : (b8 n).toNat = n := by simp [b8]; omega
theorem b8_eq {n : Nat} {x : UInt8} (h : n = x.toNat) : b8 n = x := by subst h; simp [b8]
/-- A sign as bytes. -/
def encN (c : Nat) : List UInt8 :=
  if c < 128 then [b8 c]
  else if c < 2048 then [b8 (192 + c / 64), b8 (128 + c % 64)]
  else if c < 65536 then [b8 (224 + c / 4096), b8 (128 + c / 64 % 64), b8 (128 + c % 64)]
  else [b8 (240 + c / 262144), b8 (128 + c / 4096 % 64), b8 (128 + c / 64 % 64), b8 (128 + c % 64)]
theorem enc_len (c : Nat) : 1 ≤ (encN c).length ∧ (encN c).length ≤ 4 := by
  unfold encN; repeat' split
  all_goals simp
/-- What a first byte says: its bits, how many follow, what bounds the next. -/
def st (x : Nat) : Option (Nat × Nat × Nat × Nat) :=
  if x < 128 then some (x, 0, 128, 191)
  else if x < 194 then none
  else if x < 224 then some (x - 192, 1, 128, 191)
  else if x < 240 then some (x - 224, 2, if x = 224 then 160 else 128, if x = 237 then 159 else 191)
  else if x < 245 then some (x - 240, 3, if x = 240 then 144 else 128, if x = 244 then 143 else 191)
  else none
def goN (c lo hi i : Nat) : List UInt8 → Nat → Nat × Nat × Bool
  | _, 0 => (c, i, true)
  | [], _ + 1 => (65533, i, false)
  | b :: r, n + 1 => if b.toNat < lo ∨ hi < b.toNat then (65533, i, false) else goN (c * 64 + b.toNat % 64) 128 191 (i + 1) r n
/-- What bytes begin with: a sign, how many bytes, whether it is whole. -/
def nextN : List UInt8 → Nat × Nat × Bool
  | [] => (65533, 1, false)
  | x :: r => match st x.toNat with
    | none => (65533, 1, false)
    | some (c, n, lo, hi) => goN c lo hi 1 r n
theorem next_cons (x : UInt8) (r : List UInt8) {c n lo hi : Nat} (h : st x.toNat = some (c, n, lo, hi)) : nextN (x :: r) = goN c lo hi 1 r n := by
  simp only [nextN, h]
theorem go_size : ∀ (l : List UInt8) (n c lo hi i : Nat), i ≤ (goN c lo hi i l n).2.1 ∧ (goN c lo hi i l n).2.1 ≤ i + l.length
  | _, 0, c, lo, hi, i => by simp [goN]
  | [], n + 1, c, lo, hi, i => by simp [goN]
  | b :: r, n + 1, c, lo, hi, i => by
    unfold goN
    split
    · simp
    · have := go_size r n (c * 64 + b.toNat % 64) 128 191 (i + 1)
      simp only [List.length_cons]; omega
theorem next_size (l : List UInt8) : 1 ≤ (nextN l).2.1 ∧ (l ≠ [] → (nextN l).2.1 ≤ l.length) := by
  cases l with
  | nil => simp [nextN]
  | cons x r =>
    cases e : st x.toNat with
    | none => simp [nextN, e]
    | some q =>
      obtain ⟨c, n, lo, hi⟩ := q
      have := go_size r n c lo hi 1
      rw [next_cons x r e]
      simp only [List.length_cons]; omega
theorem go_bad : ∀ (l : List UInt8) (n c lo hi i : Nat), (goN c lo hi i l n).2.2 = false → (goN c lo hi i l n).1 = 65533
  | _, 0, c, lo, hi, i => by simp [goN]
  | [], n + 1, c, lo, hi, i => by simp [goN]
  | b :: r, n + 1, c, lo, hi, i => by
    unfold goN
    split
    · simp
    · exact go_bad r n (c * 64 + b.toNat % 64) 128 191 (i + 1)
theorem next_bad (l : List UInt8) (h : (nextN l).2.2 = false) : (nextN l).1 = 65533 := by
  cases l with
  | nil => rfl
  | cons x r =>
    cases e : st x.toNat with
    | none => simp [nextN, e]
    | some q =>
      obtain ⟨c, n, lo, hi⟩ := q
      rw [next_cons x r e] at h ⊢
      exact go_bad _ _ _ _ _ _ h
theorem go_step {b : UInt8} {r : List UInt8} {n c lo hi i : Nat} (h : ¬ (b.toNat < lo ∨ hi < b.toNat)) : goN c lo hi i (b :: r) (n + 1) = goN (c * 64 + b.toNat % 64) 128 191 (i + 1) r n := by
  rw [goN, if_neg h]
theorem go_whole1 {l : List UInt8} {n c lo hi i : Nat} (h : (goN c lo hi i l (n + 1)).2.2 = true) : ∃ b r, l = b :: r ∧ lo ≤ b.toNat ∧ b.toNat ≤ hi ∧ goN c lo hi i l (n + 1) = goN (c * 64 + b.toNat % 64) 128 191 (i + 1) r n := by
  cases l with
  | nil => simp [goN] at h
  | cons b r =>
    by_cases g : b.toNat < lo ∨ hi < b.toNat
    · rw [goN, if_pos g] at h; simp at h
    · exact ⟨b, r, rfl, by omega, by omega, go_step g⟩
/-- A whole sign is a sign, and its bytes are its own. -/
theorem next_whole (l : List UInt8) (h : (nextN l).2.2 = true) : isS ((nextN l).1 : Int) = true ∧ l = encN (nextN l).1 ++ l.drop (nextN l).2.1 := by
  cases l with
  | nil => simp [nextN] at h
  | cons x r =>
    have hx := x.toNat_lt
    by_cases h1 : x.toNat < 128
    · have e : st x.toNat = some (x.toNat, 0, 128, 191) := by unfold st; rw [if_pos h1]
      rw [next_cons x r e] at h ⊢
      rw [goN]
      refine ⟨isS_iff.2 (by omega), ?_⟩
      have q : encN x.toNat = [x] := by unfold encN; rw [if_pos h1, b8_eq rfl]
      simp only [q, List.drop_succ_cons, List.drop_zero, List.cons_append, List.nil_append]
    · by_cases h2 : x.toNat < 194
      · exfalso
        have e : st x.toNat = none := by unfold st; rw [if_neg h1, if_pos h2]
        simp only [nextN, e] at h
        cases h
      · by_cases h3 : x.toNat < 224
        · have e : st x.toNat = some (x.toNat - 192, 1, 128, 191) := by unfold st; rw [if_neg h1, if_neg h2, if_pos h3]
          rw [next_cons x r e] at h ⊢
          obtain ⟨b, r, rfl, l1, u1, e1⟩ := go_whole1 h
          rw [e1, goN]
          have q : encN ((x.toNat - 192) * 64 + b.toNat % 64) = [x, b] := by
            unfold encN
            rw [if_neg (by omega), if_pos (by omega), b8_eq (x := x) (by omega), b8_eq (x := b) (by omega)]
          refine ⟨isS_iff.2 (by omega), ?_⟩
          simp only [q, List.drop_succ_cons, List.drop_zero, List.cons_append, List.nil_append]
        · by_cases h4 : x.toNat < 240
          · have e : st x.toNat = some (x.toNat - 224, 2, if x.toNat = 224 then 160 else 128, if x.toNat = 237 then 159 else 191) := by unfold st; rw [if_neg h1, if_neg h2, if_neg h3, if_pos h4]
            rw [next_cons x r e] at h ⊢
            obtain ⟨b, r, rfl, l1, u1, e1⟩ := go_whole1 h
            rw [e1] at h ⊢
            obtain ⟨b2, r, rfl, l2, u2, e2⟩ := go_whole1 h
            rw [e2, goN]
            have q1 : x.toNat = 224 → 160 ≤ b.toNat := fun h => by rw [if_pos h] at l1; exact l1
            have q2 : x.toNat = 237 → b.toNat ≤ 159 := fun h => by rw [if_pos h] at u1; exact u1
            have l1' : 128 ≤ b.toNat := by split at l1 <;> omega
            have u1' : b.toNat ≤ 191 := by split at u1 <;> omega
            clear l1 u1 e1 e2 e h
            have q : encN (((x.toNat - 224) * 64 + b.toNat % 64) * 64 + b2.toNat % 64) = [x, b, b2] := by
              unfold encN
              rw [if_neg (by omega), if_neg (by omega), if_pos (by omega), b8_eq (x := x) (by omega), b8_eq (x := b) (by omega), b8_eq (x := b2) (by omega)]
            refine ⟨isS_iff.2 (by omega), ?_⟩
            simp only [q, List.drop_succ_cons, List.drop_zero, List.cons_append, List.nil_append]
          · by_cases h5 : x.toNat < 245
            · have e : st x.toNat = some (x.toNat - 240, 3, if x.toNat = 240 then 144 else 128, if x.toNat = 244 then 143 else 191) := by unfold st; rw [if_neg h1, if_neg h2, if_neg h3, if_neg h4, if_pos h5]
              rw [next_cons x r e] at h ⊢
              obtain ⟨b, r, rfl, l1, u1, e1⟩ := go_whole1 h
              rw [e1] at h ⊢
              obtain ⟨b2, r, rfl, l2, u2, e2⟩ := go_whole1 h
              rw [e2] at h ⊢
              obtain ⟨b3, r, rfl, l3, u3, e3⟩ := go_whole1 h
              rw [e3, goN]
              have q1 : x.toNat = 240 → 144 ≤ b.toNat := fun h => by rw [if_pos h] at l1; exact l1
              have q2 : x.toNat = 244 → b.toNat ≤ 143 := fun h => by rw [if_pos h] at u1; exact u1
              have l1' : 128 ≤ b.toNat := by split at l1 <;> omega
              have u1' : b.toNat ≤ 191 := by split at u1 <;> omega
              clear l1 u1 e1 e2 e3 e h
              have q : encN ((((x.toNat - 240) * 64 + b.toNat % 64) * 64 + b2.toNat % 64) * 64 + b3.toNat % 64) = [x, b, b2, b3] := by
                unfold encN
                rw [if_neg (by omega), if_neg (by omega), if_neg (by omega), b8_eq (x := x) (by omega), b8_eq (x := b) (by omega), b8_eq (x := b2) (by omega), b8_eq (x := b3) (by omega)]
              refine ⟨isS_iff.2 (by omega), ?_⟩
              simp only [q, List.drop_succ_cons, List.drop_zero, List.cons_append, List.nil_append]
            · exfalso
              have e : st x.toNat = none := by unfold st; rw [if_neg h1, if_neg h2, if_neg h3, if_neg h4, if_neg h5]
              simp only [nextN, e] at h
              cases h
theorem next_isS (l : List UInt8) : isS ((nextN l).1 : Int) = true := by
  cases h : (nextN l).2.2 with
  | true => exact (next_whole l h).1
  | false => rw [next_bad l h]; decide
/-- A sign's own bytes are read as it. -/
theorem next_enc (c : Nat) (r : List UInt8) (h : isS (c : Int) = true) : nextN (encN c ++ r) = (c, (encN c).length, true) := by
  have hs := isS_iff.1 h
  by_cases h1 : c < 128
  · have q : encN c = [b8 c] := by unfold encN; rw [if_pos h1]
    rw [q]
    have e : st (b8 c).toNat = some (c, 0, 128, 191) := by rw [b8_nat _ (by omega)]; unfold st; rw [if_pos h1]
    show nextN (b8 c :: r) = _
    rw [next_cons _ _ e, goN]; rfl
  · by_cases h2 : c < 2048
    · have q : encN c = [b8 (192 + c / 64), b8 (128 + c % 64)] := by unfold encN; rw [if_neg h1, if_pos h2]
      rw [q]
      have e : st (b8 (192 + c / 64)).toNat = some (c / 64, 1, 128, 191) := by
        rw [b8_nat _ (by omega)]; unfold st; rw [if_neg (by omega), if_neg (by omega), if_pos (by omega), show 192 + c / 64 - 192 = c / 64 by omega]
      show nextN (b8 (192 + c / 64) :: b8 (128 + c % 64) :: r) = _
      rw [next_cons _ _ e, go_step (by rw [b8_nat _ (by omega)]; omega), goN, b8_nat _ (by omega), show c / 64 * 64 + (128 + c % 64) % 64 = c by omega]; rfl
    · by_cases h3 : c < 65536
      · have q : encN c = [b8 (224 + c / 4096), b8 (128 + c / 64 % 64), b8 (128 + c % 64)] := by unfold encN; rw [if_neg h1, if_neg h2, if_pos h3]
        rw [q]
        have e : st (b8 (224 + c / 4096)).toNat = some (c / 4096, 2, if 224 + c / 4096 = 224 then 160 else 128, if 224 + c / 4096 = 237 then 159 else 191) := by
          rw [b8_nat _ (by omega)]; unfold st; rw [if_neg (by omega), if_neg (by omega), if_neg (by omega), if_pos (by omega), show 224 + c / 4096 - 224 = c / 4096 by omega]
        show nextN (b8 (224 + c / 4096) :: b8 (128 + c / 64 % 64) :: b8 (128 + c % 64) :: r) = _
        have g1 : (b8 (128 + c / 64 % 64)).toNat = 128 + c / 64 % 64 := b8_nat _ (by omega)
        have g2 : (b8 (128 + c % 64)).toNat = 128 + c % 64 := b8_nat _ (by omega)
        rw [next_cons _ _ e, go_step (by rw [g1]; split <;> split <;> omega), go_step (by rw [g2]; omega), goN, g1, g2,
          show (c / 4096 * 64 + (128 + c / 64 % 64) % 64) * 64 + (128 + c % 64) % 64 = c by omega]
        rfl
      · have q : encN c = [b8 (240 + c / 262144), b8 (128 + c / 4096 % 64), b8 (128 + c / 64 % 64), b8 (128 + c % 64)] := by unfold encN; rw [if_neg h1, if_neg h2, if_neg h3]
        rw [q]
        have e : st (b8 (240 + c / 262144)).toNat = some (c / 262144, 3, if 240 + c / 262144 = 240 then 144 else 128, if 240 + c / 262144 = 244 then 143 else 191) := by
          rw [b8_nat _ (by omega)]; unfold st; rw [if_neg (by omega), if_neg (by omega), if_neg (by omega), if_neg (by omega), if_pos (by omega), show 240 + c / 262144 - 240 = c / 262144 by omega]
        show nextN (b8 (240 + c / 262144) :: b8 (128 + c / 4096 % 64) :: b8 (128 + c / 64 % 64) :: b8 (128 + c % 64) :: r) = _
        have g0 : (b8 (128 + c / 4096 % 64)).toNat = 128 + c / 4096 % 64 := b8_nat _ (by omega)
        have g1 : (b8 (128 + c / 64 % 64)).toNat = 128 + c / 64 % 64 := b8_nat _ (by omega)
        have g2 : (b8 (128 + c % 64)).toNat = 128 + c % 64 := b8_nat _ (by omega)
        rw [next_cons _ _ e, go_step (by rw [g0]; split <;> split <;> omega), go_step (by rw [g1]; omega), go_step (by rw [g2]; omega), goN, g0, g1, g2,
          show ((c / 262144 * 64 + (128 + c / 4096 % 64) % 64) * 64 + (128 + c / 64 % 64) % 64) * 64 + (128 + c % 64) % 64 = c by omega]
        rfl

/-- Signs as bytes; as a text, with repairs. -/
def encL (l : List Int) : List UInt8 := l.flatMap fun c => encN c.toNat
def fix (c : Int) : Int := if isS c = true then c else 65533
def textL (l : List Int) : List UInt8 := encL (l.map fix)
theorem enc_snoc (l : List Int) (k : Nat) (h : k < l.length) : encL (l.take (k + 1)) = encL (l.take k) ++ encN l[k].toNat := by
  unfold encL; rw [List.take_succ_eq_append_getElem h, List.flatMap_append]; simp
theorem encL_len (l : List Int) : (encL l).length ≤ 4 * l.length := by
  induction l with
  | nil => simp [encL]
  | cons c l ih =>
    have := (enc_len c.toNat).2
    simp only [encL, List.flatMap_cons, List.length_append, List.length_cons] at ih ⊢; omega
theorem all_snoc (l : List Int) (k : Nat) (h : k < l.length) : (l.take (k + 1)).all isS = ((l.take k).all isS && isS l[k]) := by
  rw [List.take_succ_eq_append_getElem h, List.all_append]; simp
theorem all_not (l : List Int) (k : Nat) (h : k < l.length) (hn : isS l[k] = false) : l.all isS = false := by
  rw [List.all_eq_false]; exact ⟨l[k], List.getElem_mem h, by rw [hn]; simp⟩
theorem text_snoc (l : List Int) (k : Nat) (h : k < l.length) : encL ((l.take (k + 1)).map fix) = encL ((l.take k).map fix) ++ encN (fix l[k]).toNat := by
  unfold encL; rw [List.take_succ_eq_append_getElem h, List.map_append, List.flatMap_append]; simp

/-- Bytes as signs, with repairs; strictly, or where it fails. By so many steps at most: as many as there are bytes are enough. -/
def lossyF : Nat → List UInt8 → List Int
  | 0, _ => []
  | _ + 1, [] => []
  | f + 1, x :: r => ((nextN (x :: r)).1 : Int) :: lossyF f ((x :: r).drop (nextN (x :: r)).2.1)
def decF : Nat → List UInt8 → Option (List Int)
  | 0, _ => some []
  | _ + 1, [] => some []
  | f + 1, x :: r => if (nextN (x :: r)).2.2 = true then (decF f ((x :: r).drop (nextN (x :: r)).2.1)).map (fun o => ((nextN (x :: r)).1 : Int) :: o) else none
def badF : Nat → List UInt8 → Nat
  | 0, _ => 0
  | _ + 1, [] => 0
  | f + 1, x :: r => if (nextN (x :: r)).2.2 = true then (nextN (x :: r)).2.1 + badF f ((x :: r).drop (nextN (x :: r)).2.1) else 0
def lossyL (l : List UInt8) : List Int := lossyF l.length l
def decL (l : List UInt8) : Option (List Int) := decF l.length l
def badN (l : List UInt8) : Nat := badF l.length l
theorem drop_less (x : UInt8) (r : List UInt8) (f : Nat) (h : (x :: r).length ≤ f + 1) : ((x :: r).drop (nextN (x :: r)).2.1).length ≤ f := by
  have := (next_size (x :: r)).1
  rw [List.length_drop]; omega
theorem lossyF_eq : ∀ (f g : Nat) (l : List UInt8), l.length ≤ f → l.length ≤ g → lossyF f l = lossyF g l
  | 0, 0, _, _, _ => rfl
  | 0, _ + 1, [], _, _ => rfl
  | _ + 1, 0, [], _, _ => rfl
  | _ + 1, _ + 1, [], _, _ => rfl
  | 0, _ + 1, _ :: _, h, _ => absurd h (by simp)
  | _ + 1, 0, _ :: _, _, h => absurd h (by simp)
  | f + 1, g + 1, x :: r, h, k => by rw [lossyF, lossyF, lossyF_eq f g _ (drop_less x r f h) (drop_less x r g k)]
theorem decF_eq : ∀ (f g : Nat) (l : List UInt8), l.length ≤ f → l.length ≤ g → decF f l = decF g l
  | 0, 0, _, _, _ => rfl
  | 0, _ + 1, [], _, _ => rfl
  | _ + 1, 0, [], _, _ => rfl
  | _ + 1, _ + 1, [], _, _ => rfl
  | 0, _ + 1, _ :: _, h, _ => absurd h (by simp)
  | _ + 1, 0, _ :: _, _, h => absurd h (by simp)
  | f + 1, g + 1, x :: r, h, k => by rw [decF, decF, decF_eq f g _ (drop_less x r f h) (drop_less x r g k)]
theorem badF_eq : ∀ (f g : Nat) (l : List UInt8), l.length ≤ f → l.length ≤ g → badF f l = badF g l
  | 0, 0, _, _, _ => rfl
  | 0, _ + 1, [], _, _ => rfl
  | _ + 1, 0, [], _, _ => rfl
  | _ + 1, _ + 1, [], _, _ => rfl
  | 0, _ + 1, _ :: _, h, _ => absurd h (by simp)
  | _ + 1, 0, _ :: _, _, h => absurd h (by simp)
  | f + 1, g + 1, x :: r, h, k => by rw [badF, badF, badF_eq f g _ (drop_less x r f h) (drop_less x r g k)]
theorem lossy_nil : lossyL [] = [] := rfl
theorem lossy_cons {l : List UInt8} (h : l ≠ []) : lossyL l = ((nextN l).1 : Int) :: lossyL (l.drop (nextN l).2.1) := by
  cases l with
  | nil => exact absurd rfl h
  | cons x r =>
    show lossyF (r.length + 1) (x :: r) = _
    rw [lossyF, lossyL, lossyF_eq _ _ _ (drop_less x r r.length (by simp)) (Nat.le_refl _)]
theorem dec_nil : decL [] = some [] := rfl
theorem dec_cons {l : List UInt8} (h : l ≠ []) (hw : (nextN l).2.2 = true) : decL l = (decL (l.drop (nextN l).2.1)).map (fun o => ((nextN l).1 : Int) :: o) := by
  cases l with
  | nil => exact absurd rfl h
  | cons x r =>
    show decF (r.length + 1) (x :: r) = _
    rw [decF, if_pos hw, decL, decF_eq _ _ _ (drop_less x r r.length (by simp)) (Nat.le_refl _)]
theorem dec_fail {l : List UInt8} (h : l ≠ []) (hw : (nextN l).2.2 = false) : decL l = none := by
  cases l with
  | nil => exact absurd rfl h
  | cons x r =>
    show decF (r.length + 1) (x :: r) = _
    rw [decF, if_neg (by rw [hw]; decide)]
theorem bad_nil : badN [] = 0 := rfl
theorem bad_cons {l : List UInt8} (h : l ≠ []) (hw : (nextN l).2.2 = true) : badN l = (nextN l).2.1 + badN (l.drop (nextN l).2.1) := by
  cases l with
  | nil => exact absurd rfl h
  | cons x r =>
    show badF (r.length + 1) (x :: r) = _
    rw [badF, if_pos hw, badN, badF_eq _ _ _ (drop_less x r r.length (by simp)) (Nat.le_refl _)]
theorem bad_fail {l : List UInt8} (h : l ≠ []) (hw : (nextN l).2.2 = false) : badN l = 0 := by
  cases l with
  | nil => exact absurd rfl h
  | cons x r =>
    show badF (r.length + 1) (x :: r) = _
    rw [badF, if_neg (by rw [hw]; decide)]

theorem enc_ne (c : Nat) (r : List UInt8) : encN c ++ r ≠ [] := by
  intro h
  have h1 := congrArg List.length h
  have h2 := (enc_len c).1
  rw [List.length_append, List.length_nil] at h1
  omega
theorem lossy_enc : ∀ (l : List Int) (r : List UInt8), l.all isS = true → lossyL (encL l ++ r) = l ++ lossyL r
  | [], r, _ => by simp [encL]
  | c :: l, r, h => by
    simp only [List.all_cons, Bool.and_eq_true] at h
    have hc := isS_iff.1 h.1
    obtain ⟨n, rfl⟩ := Int.eq_ofNat_of_zero_le hc.1
    have e : encL ((n : Int) :: l) ++ r = encN n ++ (encL l ++ r) := by simp [encL]
    rw [e, lossy_cons (enc_ne _ _), next_enc n _ h.1]
    simp only [List.drop_left, lossy_enc l r h.2, List.cons_append]
theorem dec_enc : ∀ (l : List Int), l.all isS = true → decL (encL l) = some l
  | [], _ => by rw [show encL [] = [] from rfl, dec_nil]
  | c :: l, h => by
    simp only [List.all_cons, Bool.and_eq_true] at h
    have hc := isS_iff.1 h.1
    obtain ⟨n, rfl⟩ := Int.eq_ofNat_of_zero_le hc.1
    have e : encL ((n : Int) :: l) = encN n ++ encL l := by simp [encL]
    have q := next_enc n (encL l) h.1
    rw [e, dec_cons (enc_ne _ _) (by rw [q]), q]
    simp only [List.drop_left, dec_enc l h.2, Option.map_some]
theorem dec_some : ∀ (k : Nat) (b : List UInt8) (v : List Int), b.length ≤ k → decL b = some v → v.all isS = true ∧ encL v = b
  | k, [], v, _, h => by
    rw [dec_nil] at h
    injection h with h; subst h
    exact ⟨rfl, rfl⟩
  | 0, x :: r, v, hk, _ => by simp at hk
  | k + 1, x :: r, v, hk, h => by
    have hne : x :: r ≠ [] := by simp
    cases hw : (nextN (x :: r)).2.2 with
    | false => rw [dec_fail hne hw] at h; cases h
    | true =>
      rw [dec_cons hne hw] at h
      obtain ⟨u, hu, rfl⟩ := Option.map_eq_some_iff.1 h
      have hs := (next_size (x :: r)).1
      have ih := dec_some k _ u (by simp only [List.length_drop, List.length_cons] at hk ⊢; omega) hu
      have q := next_whole _ hw
      refine ⟨by simp only [List.all_cons, q.1, ih.1, Bool.and_self], ?_⟩
      have e : encL (((nextN (x :: r)).1 : Int) :: u) = encN (nextN (x :: r)).1 ++ encL u := by simp [encL]
      rw [e, ih.2]
      exact q.2.symm
theorem lossy_all : ∀ (k : Nat) (b : List UInt8), b.length ≤ k → (lossyL b).all isS = true ∧ (lossyL b).length ≤ b.length
  | k, [], _ => by rw [lossy_nil]; exact ⟨rfl, Nat.le_refl _⟩
  | 0, x :: r, hk => by simp at hk
  | k + 1, x :: r, hk => by
    have hne : x :: r ≠ [] := by simp
    have hs := next_size (x :: r)
    have h2 := hs.2 hne
    have ih := lossy_all k ((x :: r).drop (nextN (x :: r)).2.1) (by simp only [List.length_drop, List.length_cons] at hk ⊢; omega)
    rw [lossy_cons hne]
    refine ⟨by simp only [List.all_cons, next_isS, ih.1, Bool.and_self], ?_⟩
    have h3 := ih.2
    simp only [List.length_drop] at h3
    simp only [List.length_cons] at h2 h3 ⊢; omega
theorem bad_lt : ∀ (k : Nat) (b : List UInt8), b.length ≤ k → decL b = none → badN b < b.length
  | k, [], _, h => by rw [dec_nil] at h; cases h
  | 0, x :: r, hk, _ => by simp at hk
  | k + 1, x :: r, hk, h => by
    have hne : x :: r ≠ [] := by simp
    cases hw : (nextN (x :: r)).2.2 with
    | false => rw [bad_fail hne hw]; simp
    | true =>
      rw [dec_cons hne hw, Option.map_eq_none_iff] at h
      have hs := (next_size (x :: r)).1
      have ih := bad_lt k _ (by simp only [List.length_drop, List.length_cons] at hk ⊢; omega) h
      rw [bad_cons hne hw]
      simp only [List.length_drop] at ih
      omega
/-- What Encode and Decode answer. -/
def errE (l : List Int) : Int := if l.all isS = true then 0 else 1
def bytesE (l : List Int) : List UInt8 := if l.all isS = true then encL l else []
def signsD (b : List UInt8) : List Int := (decL b).getD []
def placeD (b : List UInt8) : Nat := if (decL b).isSome = true then 0 else badN b
def errD (b : List UInt8) : Int := if (decL b).isSome = true then 0 else 4
theorem bytesE_len (l : List Int) : (bytesE l).length ≤ 4 * l.length := by
  unfold bytesE; split
  · exact encL_len l
  · simp
end Go.Proofs.YtilamfbpbgcnpaaDoor
