/- Plain facts of numbers: seconds that saturate, turns of 32 bits. Nothing of the program. -/
import Derived.Laws.BitsAllLaws
namespace Go.Proofs.YtbaomapkggomfabDoor

/-- Seconds brought to 0 to Never. -/
def clipI (n : Int) : Int := min (max n 0) 2147483648
theorem clip_bd (n : Int) : 0 ≤ clipI n ∧ clipI n ≤ 2147483648 := by unfold clipI; omega
theorem clip_id {n : Int} (h0 : 0 ≤ n) (h : n ≤ 2147483648) : clipI n = n := by unfold clipI; omega
def addI (a b : Int) : Int := clipI (clipI a + clipI b)
def subI (a b : Int) : Int := clipI (clipI a - clipI b)

/-- x turned to the left by k bits. -/
def turnI (x k : Int) : Int := bits .or .u32 (x * 2 ^ k.toNat % 4294967296) (x / 2 ^ (32 - k).toNat)

/-- The table of four bits; a step of four bits; of a byte; the sum of bytes. -/
def tabN : List Nat := [0, 498536548, 997073096, 651767980, 1994146192, 1802195444, 1303535960, 1342533948, 3988292384, 4027552580, 3604390888, 3412177804, 2607071920, 2262029012, 2685067896, 3183342108]
def nibN (s : Nat) : Nat := (s / 16) ^^^ tabN.getD (s % 16) 0
def stepN (s : Nat) (c : UInt8) : Nat := nibN (nibN (s ^^^ c.toNat))
def foldN (l : List UInt8) : Nat := l.foldl stepN 4294967295
def crcN (l : List UInt8) : Nat := 4294967295 ^^^ foldN l
theorem tab_lt (i : Nat) : tabN.getD i 0 < 4294967296 := by
  by_cases h : i < 16
  · have : ∀ j : Fin 16, tabN.getD j.val 0 < 4294967296 := by decide
    exact this ⟨i, h⟩
  · have e : tabN.getD i 0 = 0 := by rw [List.getD_eq_getElem?_getD, List.getElem?_eq_none (by simp [tabN]; omega)]; rfl
    omega
theorem xor_lt32 {a b : Nat} (ha : a < 4294967296) (hb : b < 4294967296) : a ^^^ b < 4294967296 := Nat.xor_lt_two_pow (n := 32) ha hb
theorem byte_lt (c : UInt8) : c.toNat < 256 := c.toNat_lt
theorem nib_lt {s : Nat} (h : s < 4294967296) : nibN s < 4294967296 := xor_lt32 (by omega) (tab_lt _)
theorem step_lt {s : Nat} (c : UInt8) (h : s < 4294967296) : stepN s c < 4294967296 := nib_lt (nib_lt (xor_lt32 h (by have := byte_lt c; omega)))
theorem foldl_lt : ∀ (l : List UInt8) (s : Nat), s < 4294967296 → l.foldl stepN s < 4294967296
  | [], _, h => h
  | c :: l, s, h => foldl_lt l (stepN s c) (step_lt c h)
theorem fold_lt (l : List UInt8) : foldN l < 4294967296 := foldl_lt l _ (by decide)
theorem foldl_snoc {β : Type} (f : β → UInt8 → β) (z : β) (l : List UInt8) (k : Nat) (h : k < l.length) : (l.take (k + 1)).foldl f z = f ((l.take k).foldl f z) l[k] := by
  rw [List.take_succ_eq_append_getElem h, List.foldl_append, List.foldl_cons, List.foldl_nil]
theorem fold_snoc (l : List UInt8) (k : Nat) (h : k < l.length) : foldN (l.take (k + 1)) = stepN (foldN (l.take k)) l[k] := foldl_snoc _ _ l k h

/-- The sum by primes. -/
def fnvStep (s : Nat) (c : UInt8) : Nat := (s ^^^ c.toNat) * 1099511628211 % 18446744073709551616
def fnvN (l : List UInt8) : Nat := l.foldl fnvStep 14695981039346656037
theorem fnv_lt (l : List UInt8) : fnvN l < 18446744073709551616 := by
  have : ∀ (l : List UInt8) (s : Nat), s < 18446744073709551616 → l.foldl fnvStep s < 18446744073709551616 := by
    intro l
    induction l with
    | nil => intro s h; exact h
    | cons c l ih => intro s _; exact ih _ (Nat.mod_lt _ (by decide))
  exact this l _ (by decide)
theorem fnv_snoc (l : List UInt8) (k : Nat) (h : k < l.length) : fnvN (l.take (k + 1)) = fnvStep (fnvN (l.take k)) l[k] := foldl_snoc _ _ l k h
end Go.Proofs.YtbaomapkggomfabDoor
