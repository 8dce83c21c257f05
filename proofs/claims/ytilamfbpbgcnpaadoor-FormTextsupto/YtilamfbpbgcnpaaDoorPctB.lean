/- The program's In: a bit of a word of the table. -/
import Derived.Test.YtilamfbpbgcnpaaDoorRowW
import Derived.Test.YtilamfbpbgcnpaaDoorPctP
namespace Go.Proofs.YtilamfbpbgcnpaaDoor
open Go.RowKit
set_option linter.unusedVariables false
set_option maxRecDepth 20000
/-- The table's words, row by row. -/
def wordsN : List (List Nat) := [[0, 0, 0, 0], [4294967295, 9223372036854775808, 18446744073709551615, 18446744073709551615], [5764607548804038655, 9223372041149743104, 18446744073709551615, 18446744073709551615], [5764607583163777023, 9223372036854775808, 18446744073709551615, 18446744073709551615], [5764608132919590911, 9223372036854775808, 18446744073709551615, 18446744073709551615], [14987979620018552831, 12105675803740602368, 18446744073709551615, 18446744073709551615], [18158654495175737343, 13258597309286973441, 18446744073709551615, 18446744073709551615], [18158681364491141119, 13258597309286973441, 18446744073709551615, 18446744073709551615], [18158685221371772927, 17870283327714361345, 18446744073709551615, 18446744073709551615]]
def wordN (s q : Nat) : Nat := (wordsN.getD s []).getD q 0
theorem word_lt_all : (List.range 9).all (fun s => (List.range 4).all fun q => decide (wordN s q < 18446744073709551616)) = true := by decide +kernel
theorem word_lt {s q : Nat} (hs : s < 9) (hq : q < 4) : wordN s q < 18446744073709551616 := by
  have h1 := List.all_eq_true.1 word_lt_all s (List.mem_range.2 hs)
  have h2 := List.all_eq_true.1 h1 q (List.mem_range.2 hq)
  simpa using h2
theorem word_bit_all : (List.range 9).all (fun s => s == 0 || (List.range 256).all fun n => (wordN s (n / 64) / 2 ^ (n % 64) % 2 == 1) == inR (s : Int) n) = true := by decide +kernel
theorem word_bit {s n : Nat} (hs : s < 9) (h1 : 1 ≤ s) (hn : n < 256) : (wordN s (n / 64) / 2 ^ (n % 64) % 2 == 1) = inR (s : Int) n := by
  have h := List.all_eq_true.1 word_bit_all s (List.mem_range.2 hs)
  have hz : (s == 0) = false := by rw [beq_eq_false_iff_ne]; omega
  rw [hz, Bool.false_or] at h
  have h2 := List.all_eq_true.1 h n (List.mem_range.2 hn)
  exact eq_of_beq h2
/-- The table lies there. -/
def TabPc (w : World) : Prop := ∀ s q, s < 9 → q < 4 → w.cell? ⟨0, s * 4 + q, none⟩ = some (.int .u64 (wordN s q : Nat))
theorem TabPc.pos {w : World} (h : TabPc w) : 0 < w.heap.size := World.block_lt_of_cell? w _ (h 0 0 (by decide) (by decide))
theorem TabPc.below {w w' : World} (h : TabPc w) (hb : Below w.heap.size w w') : TabPc w' := fun s q hs hq => (hb.cell (p := ⟨0, s * 4 + q, none⟩) h.pos).trans (h s q hs hq)
theorem TabPc.drew {w : World} (h : TabPc w) : TabPc w.drew := h
theorem TabPc.alloc {w : World} (h : TabPc w) (o : Obj) : TabPc (w.alloc o) := h.below ((Below.refl _ _).alloc (Nat.le_refl _) _)
theorem u8m64 (n : Nat) (hn : n < 256) : bits .and .u8 (n : Int) 63 = ((n % 64 : Nat) : Int) := by
  rw [show (63 : Int) = ((63 : Nat) : Int) from rfl, u8_and_nat n 63 hn (by decide), Nat.and_two_pow_sub_one_eq_mod n 6]
theorem u64m1 (x : Nat) (hx : x < 18446744073709551616) : bits .and .u64 (x : Int) 1 = ((x % 2 : Nat) : Int) := by
  rw [show (1 : Int) = ((1 : Nat) : Int) from rfl, u64_and_nat x 1 hx (by decide), Nat.and_one_is_mod]
theorem nat_eq_one (y : Nat) : ((y : Int) == 1) = (y == 1) := by
  by_cases h : y = 1
  · subst h; rfl
  · rw [beq_eq_false_iff_ne.2 h, beq_eq_false_iff_ne.2 (by omega)]
theorem in_other (set : Int) (n : Nat) (hn : n < 256) (w : World) (h : set < 1 ∨ 8 < set) :
    Calls Tryd.prog 57 #[.int .i64 set, .int .u8 (n : Int)] w fun e w' => e = .returned (.bool (inR set n)) ∧ w' = w := by
  rw [inR_other h]
  rcases h with h | h
  · go_enter Tryd.func57, Tryd.ntmps57
    go_wp2
    go_ret
    exact ⟨rfl, rfl⟩
  · have h1 : ¬ set < 1 := by omega
    go_enter Tryd.func57, Tryd.ntmps57
    go_wp2
    go_ret
    exact ⟨rfl, rfl⟩
theorem in_some (s n : Nat) (hs1 : 1 ≤ s) (hs : s < 9) (hn : n < 256) (w : World) (ht : TabPc w) :
    Calls Tryd.prog 57 #[.int .i64 (s : Int), .int .u8 (n : Int)] w fun e w' => e = .returned (.bool (inR (s : Int) n)) ∧ w' = w := by
  have HR := hid (word_bit hs hs1 hn)
  obtain ⟨q, hq⟩ : ∃ q, q = n / 64 := ⟨_, rfl⟩
  obtain ⟨m, hm⟩ : ∃ m, m = n % 64 := ⟨_, rfl⟩
  rw [← hq, ← hm] at HR
  have e1 : (n : Int) / 64 = (q : Int) := by omega
  have e2 : bits .and .u8 (n : Int) 63 = (m : Int) := by rw [u8m64 n hn, hm]
  have q4 : q < 4 := by omega
  have m64 : m < 64 := by omega
  have ht' := ht s q hs q4
  have hw := word_lt hs q4
  generalize wordN s q = t at *
  obtain ⟨x, hx⟩ : ∃ x, x = t / 2 ^ m := ⟨_, rfl⟩
  have hxl : x < 18446744073709551616 := by rw [hx]; exact Nat.lt_of_le_of_lt (Nat.div_le_self _ _) hw
  rw [← hx] at HR
  have e3 : (t : Int) / 2 ^ m = (x : Int) := by rw [hx]; simp
  have e4 := u64m1 x hxl
  obtain ⟨y, hy⟩ : ∃ y, y = x % 2 := ⟨_, rfl⟩
  rw [← hy] at HR e4
  have g1 : ¬ (s : Int) < 1 := by omega
  have g2 : ¬ (8 : Int) < (s : Int) := by omega
  have g3 : (0 : Int) ≤ (s : Int) := by omega
  have g4 : (s : Int) < 9 := by omega
  have g5 : (0 : Int) ≤ (q : Int) := by omega
  have g6 : (q : Int) < 4 := by omega
  have g7 : (m : Int) < 64 := by omega
  have g8 : (0 : Int) ≤ (m : Int) := by omega
  clear hs1 hs hn q4 m64 ht hw hx hxl hy hq hm
  go_enter Tryd.func57, Tryd.ntmps57
  go_wp2
  go_ret
  exact ⟨by rw [← HR.out, ← nat_eq_one y]; rfl, rfl⟩
theorem in_calls (set : Int) (n : Nat) (hn : n < 256) (w : World) (ht : TabPc w) :
    Calls Tryd.prog 57 #[.int .i64 set, .int .u8 (n : Int)] w fun e w' => e = .returned (.bool (inR set n)) ∧ w' = w := by
  by_cases h : set < 1 ∨ 8 < set
  · exact in_other set n hn w h
  · obtain ⟨s, rfl⟩ := Int.eq_ofNat_of_zero_le (a := set) (by omega)
    exact in_some s n (by omega) (by omega) hn w ht
end Go.Proofs.YtilamfbpbgcnpaaDoor
