/- The walks of Get: the program's and the document's. -/
import Derived.Test.YtbaomapkggomfaaDoorSumsW
namespace Go.Proofs.YtbaomapkggomfaaDoor
open Go.RowKit
set_option linter.unusedVariables false
def getN (l : List UInt8) : Nat := l.foldl (fun n c => n * 256 + c.toNat) 0
theorem get_snoc (l : List UInt8) (k : Nat) (h : k < l.length) : getN (l.take (k + 1)) = getN (l.take k) * 256 + l[k].toNat := foldl_snoc _ _ l k h
theorem get_lt (l : List UInt8) : ∀ k, getN (l.take k) < 256 ^ k := by
  intro k
  induction k with
  | zero => simp [getN]
  | succ k ih =>
    by_cases h : k < l.length
    · rw [get_snoc l k h, Nat.pow_succ]
      have := byte_lt l[k]
      omega
    · rw [List.take_of_length_le (by omega)] at ih ⊢
      rw [Nat.pow_succ]; omega
theorem pow_le {k : Nat} (h : k ≤ 6) : 256 ^ k ≤ 281474976710656 := Nat.le_trans (Nat.pow_le_pow_right (by decide) h) (by decide)
theorem or_byte (n : Nat) (c : UInt8) (hn : n < 281474976710656) : (n * 256) ||| c.toNat = n * 256 + c.toNat := by
  have := Nat.two_pow_add_eq_or_of_lt (i := 8) (byte_lt c) n
  rw [Nat.mul_comm n 256]
  exact this.symm
theorem u64or (n : Nat) (c : UInt8) (hn : n < 281474976710656) : bits .or .u64 ((n : Int) * 256) (c.toNat : Int) = ((n * 256 + c.toNat : Nat) : Int) := by
  have := byte_lt c
  rw [← or_byte n c hn]
  exact u64_or_nat (n * 256) c.toNat (by omega) (by omega)
theorem i64or (n : Nat) (c : UInt8) (hn : n < 281474976710656) : bits .or .i64 ((n : Int) * 256) (c.toNat : Int) = ((n * 256 + c.toNat : Nat) : Int) := by
  have := byte_lt c
  rw [← or_byte n c hn]
  exact (bits_nat .i64 63 (by decide) (fun n h0 h1 => by rw [IntKind.wrap_i64]; omega) (n * 256) c.toNat (by omega) (by omega)).2
theorem part_at (l : List UInt8) (i width k : Nat) (hk : k < width) (h : i + width ≤ l.length) : ((l.drop i).take width)[k]'(by simp; omega) = l[i + k]'(by omega) := by simp
theorem part_len (l : List UInt8) (i width : Nat) (h : i + width ≤ l.length) : ((l.drop i).take width).length = width := by simp; omega

set_option maxHeartbeats 400000 in
theorem get_ok (v : Value) (l : List UInt8) (i width : Nat) (w : World) (hv : BRow w v l) (h1 : 1 ≤ width) (h2 : width ≤ 6) (ha : i + width ≤ l.length) :
    Calls Tryd.prog 13 #[v, .int .i64 i, .int .i64 width] w fun e w' => e = .returned (.tuple #[.int .i64 (getN ((l.drop i).take width) : Nat), .int .i64 0]) ∧ w' = w := by
  obtain ⟨a, cap, rfl, c1, c2, c3⟩ := hv
  obtain ⟨b, off, rfl, hb, hc⟩ := c3 (by intro h; simp [h] at ha; omega)
  have HC := hid hc
  have HL := hid (part_len l i width ha)
  have HP := hid (fun k hk => part_at l i width k hk ha)
  clear hc c3
  unfold maxLen at c2
  obtain ⟨p, hp⟩ : ∃ p, p = (l.drop i).take width := ⟨_, rfl⟩
  rw [← hp]
  go_enter Tryd.func13, Tryd.ntmps13
  go_wp2
  go_loop [8, 37] (fun s j => ∃ k : Nat, k ≤ width ∧ j = .int .i64 k ∧ s = .int .u64 (getN (p.take k) : Nat)) (fun _ j => width - (intOf j).toNat)
  case atStart => exact ⟨0, Nat.zero_le _, rfl, rfl⟩
  case round =>
    obtain ⟨k, hk, rfl, rfl⟩ := hrel
    have hs := Nat.lt_of_lt_of_le (get_lt p k) (pow_le (by omega))
    by_cases hlt : k < width
    · have hck := HC.out (i + k) (by omega)
      have HN := hid (get_snoc p k (by rw [hp, HL.out]; exact hlt))
      have hpk : p[k]'(by rw [hp, HL.out]; exact hlt) = l[i + k] := by subst hp; exact HP.out k hlt
      rw [hpk] at HN
      rw [← Nat.add_assoc] at hck
      clear hpk hp
      generalize l[i + k] = c at *
      generalize getN (p.take k) = s at *
      have hcl := byte_lt c
      have e1 := u64or s c hs
      go_wp2
      go_round
      case rel => exact ⟨k + 1, by omega, by go_num, by rw [HN.out]; go_num⟩
      case measure => simp [intOf]; omega
    · have HE : Hid (p.take k = p) := List.take_of_length_le (by rw [hp, HL.out]; omega)
      rw [HE.out] at hs ⊢
      clear HE hp
      go_wp2
      go_ret2
      exact ⟨rfl, rfl⟩

theorem get_bad (v : Value) (l : List UInt8) (i width : Int) (w : World) (hv : BRow w v l) (h : ¬ (1 ≤ width ∧ width ≤ 6) ∨ i < 0 ∨ (l.length : Int) < i) :
    Calls Tryd.prog 13 #[v, .int .i64 i, .int .i64 width] w fun e w' => e = .returned (.tuple #[.int .i64 0, .int .i64 1]) ∧ w' = w := by
  obtain ⟨a, cap, rfl, c1, c2, c3⟩ := hv
  unfold maxLen at c2
  clear c3
  by_cases g1 : 1 ≤ width
  · by_cases g2 : width ≤ 6
    · by_cases g3 : i < 0
      · clear h
        go_enter Tryd.func13, Tryd.ntmps13
        go_wp2
        go_ret2
        exact ⟨rfl, rfl⟩
      · have g4 : (l.length : Int) < i := by omega
        clear h
        go_enter Tryd.func13, Tryd.ntmps13
        go_wp2
        go_ret2
        exact ⟨rfl, rfl⟩
    · clear h
      go_enter Tryd.func13, Tryd.ntmps13
      go_wp2
      go_ret2
      exact ⟨rfl, rfl⟩
  · clear h
    go_enter Tryd.func13, Tryd.ntmps13
    go_wp2
    go_ret2
    exact ⟨rfl, rfl⟩
theorem get_short (v : Value) (l : List UInt8) (i width : Int) (w : World) (hv : BRow w v l) (g1 : 1 ≤ width) (g2 : width ≤ 6) (g3 : 0 ≤ i) (g4 : i ≤ (l.length : Int)) (g5 : (l.length : Int) - i < width) :
    Calls Tryd.prog 13 #[v, .int .i64 i, .int .i64 width] w fun e w' => e = .returned (.tuple #[.int .i64 0, .int .i64 2]) ∧ w' = w := by
  obtain ⟨a, cap, rfl, c1, c2, c3⟩ := hv
  unfold maxLen at c2
  clear c3
  go_enter Tryd.func13, Tryd.ntmps13
  go_wp2
  go_ret2
  exact ⟨rfl, rfl⟩
end Go.Proofs.YtbaomapkggomfaaDoor
