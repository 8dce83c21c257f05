/- The walk of the statement 'one byte'. -/
import Derived.Test.YtfglanhbjmlclaaDoorPctKa
import Derived.Test.YtfglanhbjmlclaaDoorPctKb
import Derived.Test.YtfglanhbjmlclaaDoorPctKc
import Derived.Test.YtfglanhbjmlclaaDoorPctKd
namespace Go.Proofs.YtfglanhbjmlclaaDoor
open Go.RowKit
set_option linter.unusedVariables false
set_option maxRecDepth 20000
theorem b_yes {α : Type} [BEq α] [LawfulBEq α] {a b : α} (h : a = b) : (a == b) = true := by rw [h]; exact beq_self_eq_true _
theorem b_no {α : Type} [BEq α] [LawfulBEq α] {a b : α} (h : a ≠ b) : (a == b) = false := beq_eq_false_iff_ne.2 h
theorem one_three (c a b d : UInt8) : ([a, b, d] : List UInt8) ≠ [c] := by intro h; injection h with _ h; cases h
theorem one_three' (c a b d : UInt8) : ([c] : List UInt8) ≠ [a, b, d] := fun h => one_three c a b d h.symm
theorem pctPlain_at (set : Int) (c ch cl : UInt8) (hi lo : Nat) (w : World) (ht : Tab w) (hh : hi < 16) (hl : lo < 16) (eh : (c.toNat : Int) / 16 = (hi : Int)) (el : bits .and .u8 (c.toNat : Int) 15 = (lo : Int)) (ech : dgU hi = ch) (ecl : dgU lo = cl) (hun : unR (strOf [37, ch, cl]).data.toList = [c])
    (hcode : inR set c.toNat = true → ¬ (set = 8 ∧ c = 32) → pctR set [c] = [37, ch, cl]) : Calls Tryd.prog 7 #[.int .i64 set, .int .u8 (c.toNat : Int)] w fun e w' => e = .returned (.bool true) ∧ Below w.heap.size w w' := by
  have hc := byte_lt c
  have hself : inR set c.toNat = false → pctR set [c] = [c] := fun h => by rw [pct_one, encP_plain h]
  have hblank : set = 8 → c = 32 → pctR set [c] = [43] := fun h k => by rw [pct_one, encP_blank h k]
  by_cases hs : set < 1 ∨ 8 < set
  · have hin := inR_other hs c.toNat
    have hX := hself hin
    have x1 : (([c] : List UInt8) == [c]) = true := beq_self_eq_true _
    rcases hs with hs | hs
    · have hr : (c.toNat < 32) ∨ (32 ≤ c.toNat ∧ c.toNat < 48) ∨ (48 ≤ c.toNat ∧ c.toNat ≤ 57) ∨ (57 < c.toNat ∧ c.toNat < 65) ∨ (65 ≤ c.toNat ∧ c.toNat ≤ 90) ∨ (90 < c.toNat ∧ c.toNat < 97) ∨ (97 ≤ c.toNat ∧ c.toNat ≤ 122) ∨ (122 < c.toNat ∧ c.toNat ≤ 126) ∨ (126 < c.toNat) := by omega
      rcases hr with hr | hr | hr | hr | hr | hr | hr | hr | hr
      · exact plain_aL1 set c ch cl hi lo [c] w ht hX hh hl eh el ech ecl hun hin (by omega) (by omega) (by omega) (by omega) (by omega) (by omega) x1
      · exact plain_bL1 set c ch cl hi lo [c] w ht hX hh hl eh el ech ecl hun hin (by omega) (by omega) (by omega) (by omega) (by omega) (by omega) (by omega) x1
      · exact plain_cL1 set c ch cl hi lo [c] w ht hX hh hl eh el ech ecl hun hin (by omega) (by omega) (by omega) (by omega) (by omega) (by omega) x1
      · exact plain_dL1 set c ch cl hi lo [c] w ht hX hh hl eh el ech ecl hun hin (by omega) (by omega) (by omega) (by omega) (by omega) (by omega) (by omega) (by omega) x1
      · exact plain_eL1 set c ch cl hi lo [c] w ht hX hh hl eh el ech ecl hun hin (by omega) (by omega) (by omega) (by omega) (by omega) (by omega) (by omega) (by omega) (by omega) x1
      · exact plain_fL1 set c ch cl hi lo [c] w ht hX hh hl eh el ech ecl hun hin (by omega) (by omega) (by omega) (by omega) (by omega) (by omega) (by omega) (by omega) (by omega) x1
      · exact plain_gL1 set c ch cl hi lo [c] w ht hX hh hl eh el ech ecl hun hin (by omega) (by omega) (by omega) (by omega) (by omega) (by omega) (by omega) (by omega) x1
      · exact plain_hL1 set c ch cl hi lo [c] w ht hX hh hl eh el ech ecl hun hin (by omega) (by omega) (by omega) (by omega) (by omega) (by omega) (by omega) (by omega) (by omega) (by omega) x1
      · exact plain_iL1 set c ch cl hi lo [c] w ht hX hh hl eh el ech ecl hun hin (by omega) (by omega) (by omega) (by omega) (by omega) (by omega) (by omega) (by omega) (by omega) (by omega) x1
    · have hr : (c.toNat < 32) ∨ (32 ≤ c.toNat ∧ c.toNat < 48) ∨ (48 ≤ c.toNat ∧ c.toNat ≤ 57) ∨ (57 < c.toNat ∧ c.toNat < 65) ∨ (65 ≤ c.toNat ∧ c.toNat ≤ 90) ∨ (90 < c.toNat ∧ c.toNat < 97) ∨ (97 ≤ c.toNat ∧ c.toNat ≤ 122) ∨ (122 < c.toNat ∧ c.toNat ≤ 126) ∨ (126 < c.toNat) := by omega
      rcases hr with hr | hr | hr | hr | hr | hr | hr | hr | hr
      · exact plain_aG1 set c ch cl hi lo [c] w ht hX hh hl eh el ech ecl hun hin (by omega) (by omega) (by omega) (by omega) (by omega) (by omega) (by omega) (by omega) x1
      · exact plain_bG1 set c ch cl hi lo [c] w ht hX hh hl eh el ech ecl hun hin (by omega) (by omega) (by omega) (by omega) (by omega) (by omega) (by omega) (by omega) (by omega) x1
      · exact plain_cG1 set c ch cl hi lo [c] w ht hX hh hl eh el ech ecl hun hin (by omega) (by omega) (by omega) (by omega) (by omega) (by omega) (by omega) (by omega) x1
      · exact plain_dG1 set c ch cl hi lo [c] w ht hX hh hl eh el ech ecl hun hin (by omega) (by omega) (by omega) (by omega) (by omega) (by omega) (by omega) (by omega) (by omega) (by omega) x1
      · exact plain_eG1 set c ch cl hi lo [c] w ht hX hh hl eh el ech ecl hun hin (by omega) (by omega) (by omega) (by omega) (by omega) (by omega) (by omega) (by omega) (by omega) (by omega) (by omega) x1
      · exact plain_fG1 set c ch cl hi lo [c] w ht hX hh hl eh el ech ecl hun hin (by omega) (by omega) (by omega) (by omega) (by omega) (by omega) (by omega) (by omega) (by omega) (by omega) (by omega) x1
      · exact plain_gG1 set c ch cl hi lo [c] w ht hX hh hl eh el ech ecl hun hin (by omega) (by omega) (by omega) (by omega) (by omega) (by omega) (by omega) (by omega) (by omega) (by omega) x1
      · exact plain_hG1 set c ch cl hi lo [c] w ht hX hh hl eh el ech ecl hun hin (by omega) (by omega) (by omega) (by omega) (by omega) (by omega) (by omega) (by omega) (by omega) (by omega) (by omega) (by omega) x1
      · exact plain_iG1 set c ch cl hi lo [c] w ht hX hh hl eh el ech ecl hun hin (by omega) (by omega) (by omega) (by omega) (by omega) (by omega) (by omega) (by omega) (by omega) (by omega) (by omega) (by omega) x1
  · have hset : 1 ≤ set ∧ set ≤ 8 := by omega
    have hr : (c.toNat < 32) ∨ (32 ≤ c.toNat ∧ c.toNat < 48) ∨ (48 ≤ c.toNat ∧ c.toNat ≤ 57) ∨ (57 < c.toNat ∧ c.toNat < 65) ∨ (65 ≤ c.toNat ∧ c.toNat ≤ 90) ∨ (90 < c.toNat ∧ c.toNat < 97) ∨ (97 ≤ c.toNat ∧ c.toNat ≤ 122) ∨ (122 < c.toNat ∧ c.toNat ≤ 126) ∨ (126 < c.toNat) := by omega
    rcases hr with hr | hr | hr | hr | hr | hr | hr | hr | hr
    · have h32 : ¬ (set = 8 ∧ c = 32) := by rintro ⟨_, rfl⟩; revert hr; decide
      have hX := hcode (low_in hset.1 hset.2 (by unfold isLow; simp; omega)) h32
      exact plain_aI2 set c ch cl hi lo [37, ch, cl] w ht hX hh hl eh el ech ecl hun (by omega) (by omega) (by omega) (by omega) (by omega) (by omega) (by omega) (by omega) (b_no (one_three _ _ _ _)) (beq_self_eq_true _)
    · cases hin : inR set c.toNat with
      | false => exact plain_bI1 set c ch cl hi lo [c] w ht (hself hin) hh hl eh el ech ecl hun (by omega) (by omega) (by omega) (by omega) (by omega) (by omega) (by omega) (by omega) (by omega) (beq_self_eq_true _)
      | true =>
        by_cases h32 : set = 8 ∧ c = 32
        · obtain ⟨h8, rfl⟩ := h32
          exact plain_bI3 set 32 ch cl hi lo [43] w ht (hblank h8 rfl) hh hl eh el ech ecl hun (by omega) (by omega) (by omega) (by omega) (by omega) (by omega) (by omega) (by omega) (by omega) (by decide) (b_no (one_three' _ _ _ _)) (by decide) (b_yes h8) (by decide)
        · exact plain_bI2 set c ch cl hi lo [37, ch, cl] w ht (hcode hin h32) hh hl eh el ech ecl hun (by omega) (by omega) (by omega) (by omega) (by omega) (by omega) (by omega) (by omega) (by omega) (b_no (one_three _ _ _ _)) (beq_self_eq_true _)
    · have hX := hself (alnum_out (by unfold isAlnum; simp; omega))
      exact plain_cI1 set c ch cl hi lo [c] w ht hX hh hl eh el ech ecl hun (by omega) (by omega) (by omega) (by omega) (by omega) (by omega) (by omega) (by omega) (beq_self_eq_true _)
    · cases hin : inR set c.toNat with
      | false => exact plain_dI1 set c ch cl hi lo [c] w ht (hself hin) hh hl eh el ech ecl hun (by omega) (by omega) (by omega) (by omega) (by omega) (by omega) (by omega) (by omega) (by omega) (by omega) (beq_self_eq_true _)
      | true =>
        have h32 : ¬ (set = 8 ∧ c = 32) := by rintro ⟨_, rfl⟩; revert hr; decide
        exact plain_dI2 set c ch cl hi lo [37, ch, cl] w ht (hcode hin h32) hh hl eh el ech ecl hun (by omega) (by omega) (by omega) (by omega) (by omega) (by omega) (by omega) (by omega) (by omega) (by omega) (b_no (one_three _ _ _ _)) (beq_self_eq_true _)
    · have hX := hself (alnum_out (by unfold isAlnum; simp; omega))
      exact plain_eI1 set c ch cl hi lo [c] w ht hX hh hl eh el ech ecl hun (by omega) (by omega) (by omega) (by omega) (by omega) (by omega) (by omega) (by omega) (by omega) (by omega) (by omega) (beq_self_eq_true _)
    · cases hin : inR set c.toNat with
      | false => exact plain_fI1 set c ch cl hi lo [c] w ht (hself hin) hh hl eh el ech ecl hun (by omega) (by omega) (by omega) (by omega) (by omega) (by omega) (by omega) (by omega) (by omega) (by omega) (by omega) (beq_self_eq_true _)
      | true =>
        have h32 : ¬ (set = 8 ∧ c = 32) := by rintro ⟨_, rfl⟩; revert hr; decide
        exact plain_fI2 set c ch cl hi lo [37, ch, cl] w ht (hcode hin h32) hh hl eh el ech ecl hun (by omega) (by omega) (by omega) (by omega) (by omega) (by omega) (by omega) (by omega) (by omega) (by omega) (by omega) (b_no (one_three _ _ _ _)) (beq_self_eq_true _)
    · have hX := hself (alnum_out (by unfold isAlnum; simp; omega))
      exact plain_gI1 set c ch cl hi lo [c] w ht hX hh hl eh el ech ecl hun (by omega) (by omega) (by omega) (by omega) (by omega) (by omega) (by omega) (by omega) (by omega) (by omega) (beq_self_eq_true _)
    · cases hin : inR set c.toNat with
      | false => exact plain_hI1 set c ch cl hi lo [c] w ht (hself hin) hh hl eh el ech ecl hun (by omega) (by omega) (by omega) (by omega) (by omega) (by omega) (by omega) (by omega) (by omega) (by omega) (by omega) (by omega) (beq_self_eq_true _)
      | true =>
        have h32 : ¬ (set = 8 ∧ c = 32) := by rintro ⟨_, rfl⟩; revert hr; decide
        exact plain_hI2 set c ch cl hi lo [37, ch, cl] w ht (hcode hin h32) hh hl eh el ech ecl hun (by omega) (by omega) (by omega) (by omega) (by omega) (by omega) (by omega) (by omega) (by omega) (by omega) (by omega) (by omega) (b_no (one_three _ _ _ _)) (beq_self_eq_true _)
    · have h32 : ¬ (set = 8 ∧ c = 32) := by rintro ⟨_, rfl⟩; revert hr; decide
      have hX := hcode (low_in hset.1 hset.2 (by unfold isLow; simp; omega)) h32
      exact plain_iI2 set c ch cl hi lo [37, ch, cl] w ht hX hh hl eh el ech ecl hun (by omega) (by omega) (by omega) (by omega) (by omega) (by omega) (by omega) (by omega) (by omega) (by omega) (by omega) (by omega) (b_no (one_three _ _ _ _)) (beq_self_eq_true _)
theorem pctPlain_walk (set c : Int) (w : World) (ht : Tab w) (hset : -9223372036854775808 ≤ set ∧ set ≤ 9223372036854775807) (hc : 0 ≤ c ∧ c ≤ 255) :
    Calls Tryd.prog 7 #[.int .i64 set, .int .u8 c] w fun e w' => e = .returned (.bool true) ∧ Below w.heap.size w w' := by
  obtain ⟨n, rfl⟩ := Int.eq_ofNat_of_zero_le hc.1
  have hn : n < 256 := by omega
  have e : (n : Int) = ((UInt8.ofNat n).toNat : Int) := by rw [u8_nat hn]
  rw [e]
  generalize UInt8.ofNat n = b
  have hb := byte_lt b
  exact pctPlain_at set b _ _ (b.toNat / 16) (b.toNat % 16) w ht (by omega) (Nat.mod_lt _ (by decide)) (by omega) (u8low b) rfl rfl (un_code b) (fun h k => by rw [pct_one, encP_hex h k])
end Go.Proofs.YtfglanhbjmlclaaDoor
