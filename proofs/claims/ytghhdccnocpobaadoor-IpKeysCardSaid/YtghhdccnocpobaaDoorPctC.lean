/- The program's digit and next; the document's Digit. -/
import Derived.Test.YtghhdccnocpobaaDoorRowW
import Derived.Test.YtghhdccnocpobaaDoorPctP
namespace Go.Proofs.YtghhdccnocpobaaDoor
open Go.RowKit
set_option linter.unusedVariables false
set_option maxRecDepth 20000
theorem hexV_lt {n d : Nat} (h : hexV n = some d) : d < 16 := by
  unfold hexV at h
  split at h
  · simp at h; omega
  · split at h
    · simp at h; omega
    · split at h
      · simp at h; omega
      · cases h
/-- The value of a digit as the document tells it; -1: none. -/
def rd (n : Nat) : Int := match hexV n with
  | some d => (d : Int)
  | none => -1
theorem rdigit_calls (n : Nat) (hn : n < 256) (w : World) : Calls Tryd.prog 42 #[.int .u8 (n : Int)] w fun e w' => e = .returned (.int .i64 (rd n)) ∧ w' = w := by
  have HR : Hid (rd n = if 48 ≤ n ∧ n ≤ 57 then (n : Int) - 48 else if 97 ≤ n ∧ n ≤ 102 then (n : Int) - 87 else if 65 ≤ n ∧ n ≤ 70 then (n : Int) - 55 else -1) := by
    show rd n = _
    unfold rd hexV
    by_cases h1 : 48 ≤ n ∧ n ≤ 57
    · rw [if_pos h1, if_pos h1]; simp only []; omega
    · rw [if_neg h1, if_neg h1]
      by_cases h2 : 97 ≤ n ∧ n ≤ 102
      · rw [if_pos h2, if_pos h2]; simp only []; omega
      · rw [if_neg h2, if_neg h2]
        by_cases h3 : 65 ≤ n ∧ n ≤ 70
        · rw [if_pos h3, if_pos h3]; simp only []; omega
        · rw [if_neg h3, if_neg h3]
  have hc : n < 48 ∨ (48 ≤ n ∧ n ≤ 57) ∨ (57 < n ∧ n < 65) ∨ (57 < n ∧ 65 ≤ n ∧ n ≤ 70) ∨ (70 < n ∧ n < 97) ∨ (57 < n ∧ 97 ≤ n ∧ n ≤ 102) ∨ 102 < n := by omega
  rcases hc with g | ⟨g1, g2⟩ | ⟨g1, g2⟩ | ⟨g1, g2, g3⟩ | ⟨g1, g2⟩ | ⟨g1, g2, g3⟩ | g
  all_goals
    go_enter Tryd.func42, Tryd.ntmps42
    go_wp2
    go_ret
    refine ⟨?_, rfl⟩
    rw [HR.out]
    repeat (first | rw [if_pos (by omega)] | rw [if_neg (by omega)])
    first | rfl | exact ret_int (by omega)
theorem u8pack (h l : Nat) (hh : h < 16) (hl : l < 16) : bits .or .u8 ((h : Int) * 16) (l : Int) = ((UInt8.ofNat (h * 16 + l)).toNat : Int) := by
  have e : (UInt8.ofNat (h * 16 + l)).toNat = h * 16 + l := by simp; omega
  have := Nat.two_pow_add_eq_or_of_lt (i := 4) (show l < 2 ^ 4 by omega) h
  rw [e, show h * 16 + l = h * 16 ||| l by rw [Nat.mul_comm h 16]; exact this]
  exact u8_or_nat (h * 16) l (by omega) (by omega)
theorem i64pack (h l : Nat) (hh : h < 16) (hl : l < 16) : bits .or .i64 ((h : Int) * 16) (l : Int) = ((UInt8.ofNat (h * 16 + l)).toNat : Int) := by
  have e : (UInt8.ofNat (h * 16 + l)).toNat = h * 16 + l := by simp; omega
  have := Nat.two_pow_add_eq_or_of_lt (i := 4) (show l < 2 ^ 4 by omega) h
  rw [e, show h * 16 + l = h * 16 ||| l by rw [Nat.mul_comm h 16]; exact this]
  exact (bits_nat .i64 63 (by decide) (fun n h0 h1 => by rw [IntKind.wrap_i64]; omega) (h * 16) l (by omega) (by omega)).2
/-- The first byte that a text tells, and how many bytes tell it. -/
def nextR : List UInt8 → UInt8 × Nat
  | [] => (0, 0)
  | c :: r => if c = 37 then (match r with
      | a :: b :: _ => (match two a b with
        | some x => (x, 3)
        | none => (c, 1))
      | _ => (c, 1)) else (c, 1)
theorem nextR_plain {c : UInt8} {r : List UInt8} (h : c ≠ 37) : nextR (c :: r) = (c, 1) := if_neg h
theorem nextR_some {a b : UInt8} {r : List UInt8} {x : UInt8} (h : two a b = some x) : nextR (37 :: a :: b :: r) = (x, 3) := by
  show (if (37 : UInt8) = 37 then (match two a b with
    | some x => (x, 3)
    | none => ((37 : UInt8), 1)) else (37, 1)) = _
  rw [if_pos rfl, h]
theorem nextR_none {a b : UInt8} {r : List UInt8} (h : two a b = none) : nextR (37 :: a :: b :: r) = (37, 1) := by
  show (if (37 : UInt8) = 37 then (match two a b with
    | some x => (x, 3)
    | none => ((37 : UInt8), 1)) else (37, 1)) = _
  rw [if_pos rfl, h]
theorem two_some {a b : UInt8} {x y : Nat} (h : hexV a.toNat = some x) (k : hexV b.toNat = some y) : two a b = some (UInt8.ofNat (x * 16 + y)) := by unfold two; rw [h, k]
theorem two_noneL {a b : UInt8} (h : hexV a.toNat = none) : two a b = none := by unfold two; rw [h]
theorem two_noneR {a b : UInt8} (h : hexV b.toNat = none) : two a b = none := by
  unfold two
  rw [h]
  cases hexV a.toNat <;> rfl
theorem unR_next {l : List UInt8} (h : l ≠ []) : unR l = (nextR l).1 :: unR (l.drop (nextR l).2) := by
  match l, h with
  | c :: r, _ =>
    by_cases hc : c = 37
    · subst hc
      match r with
      | [] => rfl
      | [a] => rfl
      | a :: b :: r' =>
        cases ht : two a b with
        | some x => rw [unR_two ht, nextR_some ht]; rfl
        | none => rw [unR_not ht, nextR_none ht]; rfl
    · rw [unR_plain hc, nextR_plain hc]
      rfl
theorem nextR_size {l : List UInt8} (h : l ≠ []) : 1 ≤ (nextR l).2 ∧ (nextR l).2 ≤ l.length := by
  match l, h with
  | c :: r, _ =>
    by_cases hc : c = 37
    · subst hc
      match r with
      | [] => exact ⟨Nat.le_refl _, Nat.le_refl _⟩
      | [a] => exact ⟨Nat.le_refl _, by show 1 ≤ 2; decide⟩
      | a :: b :: r' =>
        cases ht : two a b with
        | some x => rw [nextR_some ht]; simp
        | none => rw [nextR_none ht]; simp
    · rw [nextR_plain hc]
      simp
theorem bytes_num (s : ByteArray) : s.data.toList.length = s.size := by
  show s.data.toList.length = s.data.size
  rw [Array.length_toList]
theorem bytes_at (s : ByteArray) (k : Nat) (h : k < s.size) : s.data.toList[k]? = some s[k] := by
  rw [List.getElem?_eq_getElem (by rw [bytes_num]; exact h)]; rfl
theorem bytes_three (s : ByteArray) (h : 3 ≤ s.size) : ∃ r, s.data.toList = s[0] :: s[1] :: s[2] :: r := by
  have h0 := bytes_at s 0 (by omega)
  have h1 := bytes_at s 1 (by omega)
  have h2 := bytes_at s 2 (by omega)
  revert h0 h1 h2
  generalize s[0] = a
  generalize s[1] = b
  generalize s[2] = c
  generalize s.data.toList = l
  intro h0 h1 h2
  match l, h0, h1, h2 with
  | x :: y :: z :: r, h0, h1, h2 =>
    simp at h0 h1 h2
    subst h0 h1 h2
    exact ⟨r, rfl⟩
  | [x, y], _, _, h2 => simp at h2
  | [x], _, h1, _ => simp at h1
  | [], h0, _, _ => simp at h0
theorem bytes_one (s : ByteArray) (h : 0 < s.size) : ∃ r, s.data.toList = s[0] :: r ∧ r.length + 1 = s.size := by
  have h0 := bytes_at s 0 h
  have hl := bytes_num s
  revert h0 hl
  generalize s[0] = a
  generalize s.data.toList = l
  intro h0 hl
  match l, h0, hl with
  | x :: r, h0, hl =>
    simp at h0
    subst h0
    exact ⟨r, rfl, by rw [← hl]; rfl⟩
  | [], h0, _ => simp at h0
theorem u8_eq {a b : UInt8} (h : a.toNat = b.toNat) : a = b := UInt8.toNat_inj.1 h
end Go.Proofs.YtghhdccnocpobaaDoor
