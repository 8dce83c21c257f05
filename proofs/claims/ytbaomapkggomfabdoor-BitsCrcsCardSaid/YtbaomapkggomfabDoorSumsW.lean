/- The walks of the sums: Crc, Fnv (the program's). -/
import Derived.Test.YtbaomapkggomfabDoorSecsW
import Derived.Below
namespace Go.Proofs.YtbaomapkggomfabDoor
open Go.RowKit
set_option linter.unusedVariables false

/-- v is a slice of bytes that reads as l. -/
def BRow (w : World) (v : Value) (l : List UInt8) : Prop :=
  ∃ a cap, v = .slice a l.length cap ∧ l.length ≤ cap ∧ cap ≤ maxLen ∧ (l ≠ [] → ∃ b off, a = some ⟨b, off, none⟩ ∧ b < w.heap.size ∧ ∀ i (h : i < l.length), w.cell? ⟨b, off + i, none⟩ = some (.int .u8 (l[i].toNat : Int)))
theorem BRow.below {w w' : World} {v : Value} {l : List UInt8} (h : BRow w v l) (hb : Below w.heap.size w w') : BRow w' v l := by
  obtain ⟨a, cap, rfl, h1, h2, h3⟩ := h
  refine ⟨a, cap, rfl, h1, h2, fun hl => ?_⟩
  obtain ⟨b, off, rfl, hlt, hc⟩ := h3 hl
  exact ⟨b, off, rfl, by have := hb.size; omega, fun i hi => (hb.cell (p := ⟨b, off + i, none⟩) hlt).trans (hc i hi)⟩

/-- The table lies there. -/
def Tab (w : World) : Prop := ∀ i, i < 16 → w.cell? ⟨0, i, none⟩ = some (.int .u32 (tabN.getD i 0 : Nat))


theorem u32x (a b : Nat) (ha : a < 4294967296) (hb : b < 4294967296) : ∃ x : Nat, x = a ^^^ b ∧ x < 4294967296 ∧ bits .xor .u32 (a : Int) (b : Int) = (x : Int) := ⟨_, rfl, xor_lt32 ha hb, u32_xor_nat a b ha hb⟩
theorem u32d (a b : Nat) (ha : a < 4294967296) (hb : b < 4294967296) : ∃ x : Nat, x = (a / 16) ^^^ b ∧ x < 4294967296 ∧ bits .xor .u32 ((a : Int) / 16) (b : Int) = (x : Int) :=
  ⟨_, rfl, xor_lt32 (by omega) hb, by have := u32_xor_nat (a / 16) b (by omega) hb; rw [← this]; rfl⟩
theorem u32m (a : Nat) (ha : a < 4294967296) : ∃ i : Nat, i = a % 16 ∧ i < 16 ∧ bits .and .u32 (a : Int) 15 = (i : Int) :=
  ⟨_, rfl, by omega, by rw [show (15 : Int) = ((15 : Nat) : Int) from rfl, u32_and_nat a 15 ha (by decide), Nat.and_two_pow_sub_one_eq_mod a 4]⟩
theorem tabAt {w : World} (ht : Hid (Tab w)) (i : Nat) (h : i < 16) : ∃ t : Nat, t = tabN.getD i 0 ∧ t < 4294967296 ∧ w.cell? ⟨0, i, none⟩ = some (.int .u32 (t : Int)) := ⟨_, rfl, tab_lt i, ht i h⟩

set_option maxHeartbeats 400000 in
theorem crc_calls (v : Value) (l : List UInt8) (w : World) (ht : Tab w) (hv : BRow w v l) :
    Calls Tryd.prog 10 #[v] w fun e w' => e = .returned (.int .u32 (crcN l : Nat)) ∧ w' = w := by
  obtain ⟨a, cap, rfl, h1, h2, h3⟩ := hv
  have HT := hid ht
  have H3 := hid h3
  clear ht h3
  unfold maxLen at h2
  go_enter Tryd.func10, Tryd.ntmps10
  go_wp2
  go_loop [3, 8] (fun s i => ∃ k : Nat, k ≤ l.length ∧ i = .int .i64 k ∧ s = .int .u32 (foldN (l.take k) : Nat)) (fun _ i => l.length - (intOf i).toNat)
  case atStart => exact ⟨0, Nat.zero_le _, rfl, rfl⟩
  case round =>
    obtain ⟨k, hk, rfl, rfl⟩ := hrel
    by_cases hlt : k < l.length
    · obtain ⟨b, off, rfl, hb, hc⟩ := H3.out (by intro h; simp [h] at hlt)
      have hck := hc k hlt
      clear hc
      have hs := fold_lt (l.take k)
      have HN := hid (fold_snoc l k hlt)
      generalize foldN (l.take k) = s at *
      generalize l[k] = c at *
      have hcl := byte_lt c
      obtain ⟨x1, q1, l1, e1⟩ := u32x s c.toNat hs (by omega)
      obtain ⟨i1, p1, b1, a1⟩ := u32m x1 l1
      obtain ⟨t1, r1, m1, c1⟩ := tabAt HT i1 b1
      obtain ⟨x2, q2, l2, e2⟩ := u32d x1 t1 l1 m1
      obtain ⟨i2, p2, b2, a2⟩ := u32m x2 l2
      obtain ⟨t2, r2, m2, c2⟩ := tabAt HT i2 b2
      obtain ⟨x3, q3, l3, e3⟩ := u32d x2 t2 l2 m2
      have HE : Hid (foldN (l.take (k + 1)) = x3) := by
        show foldN (l.take (k + 1)) = x3
        rw [HN.out, q3, r2, p2, q2, r1, p1, q1]; rfl
      clear HN q1 p1 r1 q2 p2 r2 q3
      go_wp2
      go_round
      case rel => exact ⟨k + 1, by omega, by go_num, by rw [HE.out]⟩
      case measure => simp [intOf]; omega
    · have HE : Hid (l.take k = l) := List.take_of_length_le (by omega)
      have hs := fold_lt l
      rw [HE.out]
      clear HE
      obtain ⟨x1, q1, l1, e1⟩ := u32x 4294967295 (foldN l) (by decide) hs
      have HQ : Hid (crcN l = x1) := q1.symm
      clear q1
      generalize foldN l = s at *
      go_wp2
      all_goals
        go_ret
        exact ⟨by rw [HQ.out]; exact ret_int (by rw [show IntKind.u32.max = ((4294967295 : Nat) : Int) from by decide]; exact e1), rfl⟩

theorem u64x (a : Nat) (c : UInt8) (ha : a < 18446744073709551616) : ∃ x : Nat, x = a ^^^ c.toNat ∧ x < 18446744073709551616 ∧ bits .xor .u64 (a : Int) (c.toNat : Int) = (x : Int) :=
  ⟨_, rfl, Nat.xor_lt_two_pow (n := 64) ha (by have := byte_lt c; omega), u64_xor_nat a c.toNat ha (by have := byte_lt c; omega)⟩
theorem fnvBegin : Hid (fnvN (([] : List UInt8)) = 14695981039346656037) := by show fnvN [] = _; unfold fnvN; rw [List.foldl_nil]
set_option maxHeartbeats 400000 in
theorem fnv_calls (v : Value) (l : List UInt8) (w : World) (hv : BRow w v l) :
    Calls Tryd.prog 12 #[v] w fun e w' => e = .returned (.int .u64 (fnvN l : Nat)) ∧ w' = w := by
  obtain ⟨a, cap, rfl, h1, h2, h3⟩ := hv
  have H3 := hid h3
  clear h3
  unfold maxLen at h2
  go_enter Tryd.func12, Tryd.ntmps12
  go_wp2
  go_loop [3, 8] (fun s i => ∃ k : Nat, k ≤ l.length ∧ i = .int .i64 k ∧ s = .int .u64 (fnvN (l.take k) : Nat)) (fun _ i => l.length - (intOf i).toNat)
  case atStart => exact ⟨0, Nat.zero_le _, rfl, by rw [List.take_zero, fnvBegin.out]; rfl⟩
  case round =>
    obtain ⟨k, hk, rfl, rfl⟩ := hrel
    by_cases hlt : k < l.length
    · obtain ⟨b, off, rfl, hb, hc⟩ := H3.out (by intro h; simp [h] at hlt)
      have hck := hc k hlt
      clear hc
      have hs := fnv_lt (l.take k)
      have HN := hid (fnv_snoc l k hlt)
      generalize fnvN (l.take k) = s at *
      generalize l[k] = c at *
      have hcl := byte_lt c
      obtain ⟨x1, q1, l1, e1⟩ := u64x s c hs
      have HE : Hid (fnvN (l.take (k + 1)) = x1 * 1099511628211 % 18446744073709551616) := by
        show fnvN (l.take (k + 1)) = _
        rw [HN.out, q1]; rfl
      clear HN q1
      go_wp2
      go_round
      case rel => exact ⟨k + 1, by omega, by go_num, by rw [HE.out]; simp [IntKind.wrap, IntKind.bits, IntKind.signed]⟩
      case measure => simp [intOf]; omega
    · have HE : Hid (l.take k = l) := List.take_of_length_le (by omega)
      rw [HE.out]
      clear HE
      go_wp2
      go_ret
      exact ⟨rfl, rfl⟩
end Go.Proofs.YtbaomapkggomfabDoor
