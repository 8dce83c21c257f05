/- The walks of the small functions: threshold, adapt, a digit's letter, a letter's digit: the program's and the document's. -/
import Derived.Test.YtpjajiilgojbgaaUtfS
import Derived.Test.YtpjajiilgojbgaaPunyQ
namespace Go.Proofs.Ytpjajiilgojbgaa
open Go.RowKit
set_option linter.unusedVariables false
theorem thr_calls (k b : Nat) (w : World) (hk : k ≤ 1000000) (hb : b ≤ 1000000) : Calls Try.prog 30 #[.int .i64 (k : Int), .int .i64 (b : Int)] w fun e w' => e = .returned (.int .i64 ((thr k b : Nat) : Int)) ∧ w' = w := by
  have hk1 : (k : Int) ≤ 1000000 := by omega
  have hb1 : (b : Int) ≤ 1000000 := by omega
  have k0 : (0 : Int) ≤ (k : Int) := by omega
  have b0 : (0 : Int) ≤ (b : Int) := by omega
  go_enter Try.func30, Try.ntmps30
  go_wp2
  all_goals
    go_ret
    exact ⟨ret_int (by unfold thr; first | omega | (rename_i h1 h2; split at h1 <;> omega)), rfl⟩
theorem rthr_calls (k b : Nat) (w : World) (hk : k ≤ 1000000) (hb : b ≤ 1000000) : Calls Try.prog 17 #[.int .i64 (k : Int), .int .i64 (b : Int)] w fun e w' => e = .returned (.int .i64 ((thr k b : Nat) : Int)) ∧ w' = w := by
  have hk1 : (k : Int) ≤ 1000000 := by omega
  have hb1 : (b : Int) ≤ 1000000 := by omega
  have k0 : (0 : Int) ≤ (k : Int) := by omega
  have b0 : (0 : Int) ≤ (b : Int) := by omega
  go_enter Try.func17, Try.ntmps17
  go_wp2
  all_goals
    go_ret
    exact ⟨ret_int (by unfold thr; first | omega | (rename_i h1 h2; split at h1 <;> omega)), rfl⟩
/- Letters and digits. -/
def letter (d : Nat) : UInt8 := if d < 26 then b8 (97 + d) else b8 (22 + d)
def val (c : UInt8) : Option Nat := if 97 ≤ c.toNat ∧ c.toNat ≤ 122 then some (c.toNat - 97) else if 65 ≤ c.toNat ∧ c.toNat ≤ 90 then some (c.toNat - 65) else if 48 ≤ c.toNat ∧ c.toNat ≤ 57 then some (c.toNat - 22) else none
theorem letter_nat (d : Nat) (h : d < 36) : (letter d).toNat = if d < 26 then 97 + d else 22 + d := by
  unfold letter; split <;> rw [b8_nat _ (by omega)]
theorem val_letter (d : Nat) (h : d < 36) : val (letter d) = some d := by
  unfold val
  rw [letter_nat d h]
  split <;> (repeat (split <;> try omega)) <;> (congr 1; omega)
theorem letter_calls (d : Nat) (w : World) (h : d < 36) : Calls Try.prog 31 #[.int .i64 (d : Int)] w fun e w' => e = .returned (.int .u8 ((letter d).toNat : Int)) ∧ w' = w := by
  rw [letter_nat d h]
  have d0 : (0 : Int) ≤ (d : Int) := by omega
  have d1 : (d : Int) < 36 := by omega
  clear h
  go_enter Try.func31, Try.ntmps31
  go_wp2
  all_goals
    go_ret
    refine ⟨ret_int ?_, rfl⟩
    first | omega | (rw [if_pos (by omega)]; omega) | (rw [if_neg (by omega)]; omega)
theorem rletter_calls (d : Nat) (w : World) (h : d < 36) : Calls Try.prog 18 #[.int .i64 (d : Int)] w fun e w' => e = .returned (.int .u8 ((letter d).toNat : Int)) ∧ w' = w := by
  rw [letter_nat d h]
  have d0 : (0 : Int) ≤ (d : Int) := by omega
  have d1 : (d : Int) < 36 := by omega
  clear h
  go_enter Try.func18, Try.ntmps18
  go_wp2
  all_goals
    go_ret
    refine ⟨ret_int ?_, rfl⟩
    first | omega | (rw [if_pos (by omega)]; omega) | (rw [if_neg (by omega)]; omega)
def valPair : Option Nat → Value × Value
  | some d => (.int .i64 (d : Int), .bool true)
  | none => (.int .i64 0, .bool false)
set_option maxRecDepth 20000 in
theorem digit_calls (c : UInt8) (w : World) : Calls Try.prog 33 #[.int .u8 (c.toNat : Int)] w fun e w' => e = .returned (.tuple #[(valPair (val c)).1, (valPair (val c)).2]) ∧ w' = w := by
  obtain ⟨x, hx⟩ : ∃ x, x = val c := ⟨_, rfl⟩
  rw [← hx]
  unfold val at hx
  have hc := byte_lt c
  generalize c.toNat = n at *
  have HX := hid hx
  clear hx
  have d0 : (0 : Int) ≤ (n : Int) := by omega
  have d1 : (n : Int) < 256 := by omega
  have hcc : (n : Int) < 48 ∨ (48 ≤ (n : Int) ∧ (n : Int) ≤ 57) ∨ (57 < (n : Int) ∧ (n : Int) < 65) ∨ (65 ≤ (n : Int) ∧ (n : Int) ≤ 90) ∨ (90 < (n : Int) ∧ (n : Int) < 97) ∨ (97 ≤ (n : Int) ∧ (n : Int) ≤ 122) ∨ 122 < (n : Int) := by omega
  clear hc
  rcases hcc with g | ⟨g1, g2⟩ | ⟨g1, g2⟩ | ⟨g1, g2⟩ | ⟨g1, g2⟩ | ⟨g1, g2⟩ | g
  all_goals
    go_enter Try.func33, Try.ntmps33
    go_wp2
    go_ret2
    refine ⟨?_, rfl⟩
    rw [HX.out]
    repeat (first | rw [if_pos (by omega)] | rw [if_neg (by omega)])
    simp [valPair]
    try omega
def valInt : Option Nat → Int
  | some d => (d : Int)
  | none => -1
set_option maxRecDepth 20000 in
theorem rvalue_calls (c : UInt8) (w : World) : Calls Try.prog 23 #[.int .u8 (c.toNat : Int)] w fun e w' => e = .returned (.int .i64 (valInt (val c))) ∧ w' = w := by
  obtain ⟨x, hx⟩ : ∃ x, x = val c := ⟨_, rfl⟩
  rw [← hx]
  unfold val at hx
  have hc := byte_lt c
  generalize c.toNat = n at *
  have HX := hid hx
  clear hx
  have d0 : (0 : Int) ≤ (n : Int) := by omega
  have d1 : (n : Int) < 256 := by omega
  have hcc : (n : Int) < 48 ∨ (48 ≤ (n : Int) ∧ (n : Int) ≤ 57) ∨ (57 < (n : Int) ∧ (n : Int) < 65) ∨ (65 ≤ (n : Int) ∧ (n : Int) ≤ 90) ∨ (90 < (n : Int) ∧ (n : Int) < 97) ∨ (97 ≤ (n : Int) ∧ (n : Int) ≤ 122) ∨ 122 < (n : Int) := by omega
  clear hc
  rcases hcc with g | ⟨g1, g2⟩ | ⟨g1, g2⟩ | ⟨g1, g2⟩ | ⟨g1, g2⟩ | ⟨g1, g2⟩ | g
  all_goals
    go_enter Try.func23, Try.ntmps23
    go_wp2
    go_ret
    refine ⟨?_, rfl⟩
    rw [HX.out]
    repeat (first | rw [if_pos (by omega)] | rw [if_neg (by omega)])
    simp [valInt]
    try omega
end Go.Proofs.Ytpjajiilgojbgaa
