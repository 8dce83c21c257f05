/- The walk of the document's own Put. -/
import Derived.Test.YtbaomapkggomfaaDoorBytesW
import Derived.Deep.DeepMust
namespace Go.Proofs.YtbaomapkggomfaaDoor
open Go.RowKit
set_option linter.unusedVariables false
theorem one_row (w : World) (c : UInt8) : BRow (w.alloc (.cells #[.int .u8 (c.toNat : Int)] 5)) (.slice (some ⟨w.heap.size, 0, none⟩) 1 1) [c] := lit_row w [c] (0, 0) (by simp)
theorem Own.alloc {w : World} {base : Nat} {v : Value} {l : List UInt8} (h : Own w base v l) (o : Obj) : Own (w.alloc o) base v l := World.ownsRow.alloc h o
theorem put_len (n width : Nat) : (putL n width).length = width := by simp [putL]
theorem put_snoc (n width m : Nat) (hm : m + 1 ≤ width) : (putL n width).take (width - m) = (putL n width).take (width - (m + 1)) ++ [UInt8.ofNat (n / 256 ^ m)] := by
  rw [show width - m = width - (m + 1) + 1 by omega, List.take_succ_eq_append_getElem (by rw [put_len]; omega)]
  simp [putL, show width - 1 - (width - (m + 1)) = m by omega]
theorem put_byte (n m : Nat) : (n : Int) / 2 ^ (8 * m) % 256 = ((UInt8.ofNat (n / 256 ^ m)).toNat : Int) := by
  have e : (2 : Int) ^ (8 * m) = ((256 ^ m : Nat) : Int) := by rw [show (256 : Nat) = 2 ^ 8 from rfl, ← Nat.pow_mul]; simp
  rw [e]
  simp
theorem rput_bad (n width : Int) (w : World) (h : ¬ (1 ≤ width ∧ width ≤ 6) ∨ n < 0) :
    Calls Tryd.prog 12 #[.int .i64 n, .int .i64 width] w fun e w' => e = .returned (.tuple #[.slice none 0 0, .int .i64 1]) ∧ w' = w := by
  by_cases h1 : 1 ≤ width
  · by_cases h2 : width ≤ 6
    · have h3 : n < 0 := by omega
      clear h
      go_enter Tryd.func12, Tryd.ntmps12
      go_wp2
      go_ret2
      exact ⟨rfl, rfl⟩
    · clear h
      go_enter Tryd.func12, Tryd.ntmps12
      go_wp2
      go_ret2
      exact ⟨rfl, rfl⟩
  · clear h
    go_enter Tryd.func12, Tryd.ntmps12
    go_wp2
    go_ret2
    exact ⟨rfl, rfl⟩
theorem rput_big (n width : Int) (w : World) (h1 : 1 ≤ width) (h2 : width ≤ 6) (h0 : 0 ≤ n) (hn : n ≤ 9223372036854775807) (h : 0 < n / 2 ^ (8 * width).toNat) :
    Calls Tryd.prog 12 #[.int .i64 n, .int .i64 width] w fun e w' => e = .returned (.tuple #[.slice none 0 0, .int .i64 1]) ∧ w' = w := by
  go_enter Tryd.func12, Tryd.ntmps12
  go_wp2
  go_ret2
  exact ⟨rfl, rfl⟩
set_option maxHeartbeats 400000 in
theorem rput_ok (n width : Nat) (w : World) (h1 : 1 ≤ width) (h2 : width ≤ 6) (hn : n ≤ 9223372036854775807) (h : ((n : Int) / 2 ^ (8 * width)) ≤ 0) :
    Calls Tryd.prog 12 #[.int .i64 n, .int .i64 width] w fun e w' => (∃ v, e = .returned (.tuple #[v, .int .i64 0]) ∧ BRow w' v (putL n width)) ∧ Below w.heap.size w w' := by
  go_enter Tryd.func12, Tryd.ntmps12
  go_wp2
  go_loopw [6, 7] (fun v i wr => ∃ (m : Nat), m ≤ width ∧ i = .int .i64 ((m : Int) - 1) ∧ Own wr w.heap.size v ((putL n width).take (width - m)) ∧ Below w.heap.size w wr) (fun _ i _ => (intOf i + 1).toNat)
  case atStart => exact ⟨width, Nat.le_refl _, rfl, by rw [Nat.sub_self]; exact Own.nil _ _, Below.refl _ _⟩
  case round =>
    obtain ⟨m, hm, rfl, ho, hb⟩ := hrel
    cases m with
    | zero =>
      have HO := hid ho
      have HB := hid hb
      clear ho hb h
      go_wp2
      go_ret2
      exact ⟨⟨_, rfl, by have := HO.out.row; rwa [Nat.sub_zero, List.take_of_length_le (by rw [put_len]; omega)] at this⟩, HB.out⟩
    | succ m =>
      have hsz := hb.size
      have hX := put_byte n m
      have HS := hid (put_snoc n width m hm)
      have hlen : ((putL n width).take (width - (m + 1))).length ≤ 6 := by rw [List.length_take, put_len]; omega
      generalize (putL n width).take (width - (m + 1)) = xs at *
      generalize UInt8.ofNat (n / 256 ^ m) = c at *
      obtain ⟨v', w1, hr, ho1, hg⟩ := append_run (ho.alloc (.cells #[.int .u8 (c.toNat : Int)] 5)) (one_row wr c) (by simp; omega) (by simp; omega)
      have HO := hid ho1
      have HB := hid ((hb.alloc hsz _).grown hg (by simp; omega) (fun k hk => (World.ownsRow.lt ho k hk).1))
      clear ho1 hg ho hb h hlen
      go_wp2_with (at_builtin; go_must (refine wpList_append_run hr rfl _ _ rfl rfl rfl rfl ?_))
      go_roundw
      case rel => exact ⟨m, by omega, by go_num, by rw [HS.out]; exact HO.out, HB.out⟩
      case measure => simp [intOf]
end Go.Proofs.YtbaomapkggomfaaDoor
