/- The walks of single signs: is it one, its bytes (the program's and the document's); ints held against each other. -/
import Derived.Test.YtpjajiilgojbgaaRowW
import Derived.Test.YtpjajiilgojbgaaUtfP
namespace Go.Proofs.Ytpjajiilgojbgaa
open Go.RowKit
set_option linter.unusedVariables false
theorem ret_bool {a b : Bool} (h : a = b) : Ending.returned (.bool a) = .returned (.bool b) := by rw [h]
theorem isS_no {c : Int} (h : ¬ (0 ≤ c ∧ c ≤ 1114111 ∧ (c < 55296 ∨ 57343 < c))) : isS c = false := by simp only [isS, decide_eq_false_iff_not]; exact h
theorem scalar_calls (c : Int) (w : World) : Calls Try.prog 14 #[.int .i64 c] w fun e w' => e = .returned (.bool (isS c)) ∧ w' = w := by
  have hc : c < 0 ∨ (0 ≤ c ∧ c < 55296) ∨ (55296 ≤ c ∧ c ≤ 57343) ∨ (57343 < c ∧ c ≤ 1114111) ∨ 1114111 < c := by omega
  rcases hc with g | ⟨g1, g2⟩ | ⟨g1, g2⟩ | ⟨g1, g2⟩ | g
  all_goals
    go_enter Try.func14, Try.ntmps14
    go_wp2
    go_ret
    refine ⟨ret_bool ?_, rfl⟩
    by_cases hs : 0 ≤ c ∧ c ≤ 1114111 ∧ (c < 55296 ∨ 57343 < c)
    · have q := isS_iff.2 hs
      first | exact q.symm | (exfalso; omega) | (rw [q]; simp; done) | (rw [q]; simp; omega)
    · have q := isS_no hs
      first | exact q.symm | (exfalso; omega) | (rw [q]; simp; done) | (rw [q]; simp; omega)
theorem rscalar_calls (c : Int) (w : World) : Calls Try.prog 16 #[.int .i64 c] w fun e w' => e = .returned (.bool (isS c)) ∧ w' = w := by
  have hc : c < 0 ∨ (0 ≤ c ∧ c < 55296) ∨ (55296 ≤ c ∧ c ≤ 57343) ∨ (57343 < c ∧ c ≤ 1114111) ∨ 1114111 < c := by omega
  rcases hc with g | ⟨g1, g2⟩ | ⟨g1, g2⟩ | ⟨g1, g2⟩ | g
  all_goals
    go_enter Try.func16, Try.ntmps16
    go_wp2
    go_ret
    refine ⟨ret_bool ?_, rfl⟩
    by_cases hs : 0 ≤ c ∧ c ≤ 1114111 ∧ (c < 55296 ∨ 57343 < c)
    · have q := isS_iff.2 hs
      first | exact q.symm | (exfalso; omega) | (rw [q]; simp; done) | (rw [q]; simp; omega)
    · have q := isS_no hs
      first | exact q.symm | (exfalso; omega) | (rw [q]; simp; done) | (rw [q]; simp; omega)
theorem i64_or (a b : Nat) (ha : a < 2 ^ 63) (hb : b < 2 ^ 63) : bits .or .i64 (a : Int) (b : Int) = ((a ||| b : Nat) : Int) :=
  (bits_nat .i64 63 (by decide) (fun n h0 h1 => by rw [IntKind.wrap_i64]; omega) a b ha hb).2
theorem i64_and (a b : Nat) (ha : a < 2 ^ 63) (hb : b < 2 ^ 63) : bits .and .i64 (a : Int) (b : Int) = ((a &&& b : Nat) : Int) :=
  (bits_nat .i64 63 (by decide) (fun n h0 h1 => by rw [IntKind.wrap_i64]; omega) a b ha hb).1
theorem low6 (c : Nat) (h : c < 2 ^ 63) : bits .and .i64 (c : Int) 63 = ((c % 64 : Nat) : Int) := by
  rw [show (63 : Int) = ((63 : Nat) : Int) from rfl, i64_and c 63 h (by decide), Nat.and_two_pow_sub_one_eq_mod c 6]
/-- A mark above bits that are lower. -/
theorem or_mark (m p k : Nat) (q : Nat) (hm : m = 2 ^ k * q) (hp : p < 2 ^ k) : m ||| p = m + p := by subst hm; exact (Nat.two_pow_add_eq_or_of_lt hp q).symm
theorem u8mark (m p k q : Nat) (hm : m = 2 ^ k * q) (hp : p < 2 ^ k) (h : m + p < 256) : bits .or .u8 (m : Int) (p : Int) = ((b8 (m + p)).toNat : Int) := by
  rw [u8_or_nat m p (by omega) (by omega), or_mark m p k q hm hp, b8_nat _ h]
theorem i64mark (m p k q : Nat) (hm : m = 2 ^ k * q) (hp : p < 2 ^ k) (h : m + p < 256) : bits .or .i64 (m : Int) (p : Int) = ((b8 (m + p)).toNat : Int) := by
  rw [i64_or m p (by omega) (by omega), or_mark m p k q hm hp, b8_nat _ h]

theorem enc1 {c : Nat} (h : c < 128) : encN c = [b8 c] := by unfold encN; rw [if_pos h]
theorem enc2 {c : Nat} (h1 : ¬ c < 128) (h : c < 2048) : encN c = [b8 (192 + c / 64), b8 (128 + c % 64)] := by unfold encN; rw [if_neg h1, if_pos h]
theorem enc3 {c : Nat} (h1 : ¬ c < 2048) (h : c < 65536) : encN c = [b8 (224 + c / 4096), b8 (128 + c / 64 % 64), b8 (128 + c % 64)] := by unfold encN; rw [if_neg (by omega), if_neg h1, if_pos h]
theorem enc4 {c : Nat} (h : ¬ c < 65536) : encN c = [b8 (240 + c / 262144), b8 (128 + c / 4096 % 64), b8 (128 + c / 64 % 64), b8 (128 + c % 64)] := by unfold encN; rw [if_neg (by omega), if_neg (by omega), if_neg h]
end Go.Proofs.Ytpjajiilgojbgaa
