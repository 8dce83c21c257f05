/- Texts: what Encode writes Decode reads, with great letters too. -/
import Derived.Test.YtpjajiilgojbgaaPunyK
namespace Go.Proofs.Ytpjajiilgojbgaa
open Go.RowKit Go.Shelf
set_option linter.unusedVariables false
theorem strOf_size (l : List UInt8) : (strOf l).size = l.length := by rw [← bytesOf_len]; rfl
theorem strOf_at (l : List UInt8) (i : Nat) (h : i < l.length) : (strOf l).data[i]! = l[i] := by
  show l.toArray[i]! = l[i]
  rw [getElem!_pos l.toArray i (by simpa using h)]; simp
theorem low_nat (m : List Nat) : (low m).map UInt8.toNat = m.filter (· < 128) := by
  unfold low
  rw [List.map_map]
  refine (List.map_congr_left fun c hc => ?_).trans (List.map_id _)
  have := (List.mem_filter.1 hc).2
  simp at this
  exact b8_nat c (by omega)
theorem low_lt (m : List Nat) : ∀ c ∈ low m, c.toNat < 128 := by
  intro c hc
  have : c.toNat ∈ (low m).map UInt8.toNat := List.mem_map_of_mem hc
  rw [low_nat] at this
  simpa using (List.mem_filter.1 this).2
/-- The last mark of a text. -/
theorem last_none (l : List UInt8) (h : ∀ c ∈ l, c.toNat ≠ 45) : Lib.lastIndexByte (strOf l) 45 = -1 := by
  rcases Lib.lastIdx_spec (strOf l) 45 (strOf l).size with ⟨h1, _⟩ | ⟨i, h1, h2, h3, _⟩
  · exact h1
  · rw [strOf_size] at h1
    rw [strOf_at l i h1] at h3
    exact absurd (by omega) (h _ (List.getElem_mem h1))
theorem last_some (a b : List UInt8) (h : ∀ c ∈ b, c.toNat ≠ 45) : Lib.lastIndexByte (strOf (a ++ 45 :: b)) 45 = (a.length : Int) := by
  have hlen : (a ++ 45 :: b).length = a.length + 1 + b.length := by simp; omega
  have hat : (strOf (a ++ 45 :: b)).data[a.length]! = 45 := by rw [strOf_at _ _ (by omega)]; simp
  rcases Lib.lastIdx_spec (strOf (a ++ 45 :: b)) 45 (strOf (a ++ 45 :: b)).size with ⟨h1, h2⟩ | ⟨i, h1, h2, h3, h4⟩
  · rw [strOf_size] at h2
    have := h2 a.length (by omega)
    rw [hat] at this
    exact absurd rfl this
  · rw [strOf_size] at h1 h4
    have hi : i = a.length := by
      rcases Nat.lt_trichotomy i a.length with g | g | g
      · have := h4 a.length g (by omega)
        rw [hat] at this
        exact absurd rfl this
      · exact g
      · rw [strOf_at _ i h1] at h3
        exfalso
        have hm : (a ++ 45 :: b)[i] ∈ b := by
          obtain ⟨j, rfl⟩ : ∃ j, i = a.length + 1 + j := ⟨i - (a.length + 1), by omega⟩
          rw [List.getElem_append_right (by omega)]
          simp only [show a.length + 1 + j - a.length = j + 1 by omega, List.getElem_cons_succ]
          exact List.getElem_mem _
        exact h _ hm (by omega)
    rw [← hi]; exact h2
/-- Digits that tell what Encode's tell are read alike. -/
theorem dec_of (m : List Nat) (hl : m.length ≤ 256) (hS : ∀ c ∈ m, isS (c : Int) = true) (D : List UInt8) (hD : D.map val = (encD m (m.countP (· < 128)) m.length 0 72 128 (m.countP (· < 128))).map some) (h45 : ∀ c ∈ D, c.toNat ≠ 45) :
    dec (strOf (low m ++ (if m.countP (· < 128) = 0 then [] else [45]) ++ D)) = some m := by
  have hP : m.countP (· < 128) = (m.filter (· < 128)).length := List.countP_eq_length_filter
  have hback := enc_back m (m.countP (· < 128)) hl hS m.length 128 0 72 128 0 D.length (by omega) (Nat.le_refl _) (Nat.zero_le _) (by omega) (by omega)
    (by rw [← hP, ← hD]; simp)
  rw [← hP, decide_eq_true rfl, ← hD] at hback
  have hPl : m.countP (· < 128) ≤ m.length := List.countP_le_length
  by_cases hz : m.countP (· < 128) = 0
  · have hlow : low m = [] := List.eq_nil_of_length_eq_zero (by rw [low_len, hz])
    have hf : m.filter (· < 128) = [] := List.eq_nil_of_length_eq_zero (by omega)
    rw [if_pos hz, hlow]
    simp only [List.nil_append]
    unfold dec
    rw [if_pos (by unfold cutOf; rw [last_none D h45]; rfl), strOf_size]
    rw [hf] at hback
    exact hback
  · rw [if_neg hz]
    have hsp : low m ++ [45] ++ D = low m ++ 45 :: D := by simp
    rw [hsp]
    have hcut : cutOf (strOf (low m ++ 45 :: D)) = m.countP (· < 128) := by unfold cutOf; rw [last_some _ _ h45, low_len]; rfl
    have htk : (bytesOf (strOf (low m ++ 45 :: D))).take (m.countP (· < 128)) = low m := by
      show (low m ++ 45 :: D).take _ = _
      rw [← low_len]; exact List.take_left
    have hdr : (vals (strOf (low m ++ 45 :: D))).drop (m.countP (· < 128) + 1) = D.map val := by
      show ((low m ++ 45 :: D).map val).drop _ = _
      rw [← List.map_drop, ← low_len]
      congr 1
      rw [← List.drop_drop, List.drop_left]; rfl
    have hsz : (strOf (low m ++ 45 :: D)).size - (m.countP (· < 128) + 1) = D.length := by
      rw [strOf_size]; simp [low_len]; omega
    unfold dec
    rw [hcut, if_neg hz, if_neg (by omega), htk, if_pos (List.all_eq_true.2 fun c hc => by simpa using low_lt m c hc), hdr, hsz, low_nat]
    exact hback
theorem letter_ne (d : Nat) (h : d < 36) : (letter d).toNat ≠ 45 ∧ ((97 ≤ (letter d).toNat ∧ (letter d).toNat ≤ 122) ∨ (48 ≤ (letter d).toNat ∧ (letter d).toNat ≤ 57)) := by
  rw [letter_nat d h]
  split <;> omega
theorem dec_enc_puny (m : List Nat) (hl : m.length ≤ 256) (hS : ∀ c ∈ m, isS (c : Int) = true) : dec (strOf (enc m)) = some m := by
  unfold enc
  refine dec_of m hl hS _ ?_ ?_
  · rw [List.map_map]
    refine List.map_congr_left fun d hd => ?_
    exact val_letter d (encD_digits _ _ _ _ _ _ _ d hd)
  · intro c hc
    obtain ⟨d, hd, rfl⟩ := List.mem_map.1 hc
    exact (letter_ne d (encD_digits _ _ _ _ _ _ _ d hd)).1
theorem enc_inj (m m' : List Nat) (hl : m.length ≤ 256) (hS : ∀ c ∈ m, isS (c : Int) = true) (hl' : m'.length ≤ 256) (hS' : ∀ c ∈ m', isS (c : Int) = true) (h : enc m = enc m') : m = m' := by
  have h1 := dec_enc_puny m hl hS
  rw [h, dec_enc_puny m' hl' hS'] at h1
  injection h1 with h1
  exact h1.symm
end Go.Proofs.Ytpjajiilgojbgaa
