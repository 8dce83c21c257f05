/- The walk of the statement 'any number'. -/
import Derived.Test.YtjcckmpipmoaoaaUtfF
namespace Go.Proofs.Ytjcckmpipmoaoaa
open Go.RowKit
set_option linter.unusedVariables false
theorem errE_one (c : Int) : errE [c] = if isS c = true then 0 else 1 := by simp [errE]
theorem bytesE_one (c : Int) : (isS c = true ∧ errE [c] = 0 ∧ bytesE [c] = encN c.toNat) ∨ (isS c = false ∧ errE [c] = 1 ∧ bytesE [c] = []) := by
  cases h : isS c with
  | true => left; refine ⟨rfl, by simp [errE, h], by simp [bytesE, encL, h]⟩
  | false => right; refine ⟨rfl, by simp [errE, h], by simp [bytesE, h]⟩
set_option maxHeartbeats 1000000 in
theorem utfSigns_walk (c : Int) (w : World) (hc : -9223372036854775808 ≤ c ∧ c ≤ 9223372036854775807) :
    Calls Try.prog 4 #[.int .i64 c] w fun e w' => e = .returned (.bool true) ∧ Below w.heap.size w w' := by
  clear hc
  go_enter Try.func4, Try.ntmps4
  go_wp2_with fail
  refine (first_calls _).mono ?_
  rintro e w1 ⟨rfl, hb1⟩
  have HB1 := hid hb1
  clear hb1
  go_wp2_with fail
  refine (encode_calls _ [c] _ (litI w1 [c] (by simp)) (by simp)).mono ?_
  rintro e w2 ⟨⟨v, rfl, hv⟩, hb⟩
  have HB2 := hid (HB1.out.trans ((((Below.refl _ _).alloc (Nat.le_refl w1.heap.size) (.cells #[.int .i64 c] 3)).trans (hb.mono (by simp))).mono HB1.out.size))
  clear hb HB1
  obtain ⟨a, cap, rfl, h1, h2, -⟩ := hv
  rcases bytesE_one c with ⟨hs, e1, e2⟩ | ⟨hs, e1, e2⟩
  · rw [e1, e2]
    have hl := enc_len c.toNat
    generalize (encN c.toNat).length = n at *
    have l1 : (1 : Int) ≤ (n : Int) := by omega
    have l2 : (n : Int) ≤ 4 := by omega
    clear e1 e2 h1 h2 hl
    go_wp2_with fail
    refine (first_calls _).mono ?_
    rintro e w3 ⟨rfl, hb⟩
    have HB3 := hid (below_trans HB2.out hb)
    clear hb HB2
    go_wp2_with fail
    refine (scalar_calls _ _).mono ?_
    rintro e w4 ⟨rfl, rfl⟩
    rw [hs]
    go_wp2_with fail
    refine (rscalar_calls _ _).mono ?_
    rintro e w4 ⟨rfl, rfl⟩
    rw [hs]
    go_wp2_with fail
    refine (scalar_calls _ _).mono ?_
    rintro e w4 ⟨rfl, rfl⟩
    rw [hs]
    go_wp2_with fail
    go_ret
    exact ⟨rfl, HB3.out⟩
  · rw [e1, e2]
    clear e1 e2 h1 h2
    go_wp2_with fail
    refine (first_calls _).mono ?_
    rintro e w3 ⟨rfl, hb⟩
    have HB3 := hid (below_trans HB2.out hb)
    clear hb HB2
    go_wp2_with fail
    refine (scalar_calls _ _).mono ?_
    rintro e w4 ⟨rfl, rfl⟩
    rw [hs]
    go_wp2_with fail
    refine (rscalar_calls _ _).mono ?_
    rintro e w4 ⟨rfl, rfl⟩
    rw [hs]
    go_wp2_with fail
    refine (scalar_calls _ _).mono ?_
    rintro e w4 ⟨rfl, rfl⟩
    rw [hs]
    go_wp2_with fail
    go_ret
    exact ⟨rfl, HB3.out⟩
end Go.Proofs.Ytjcckmpipmoaoaa
