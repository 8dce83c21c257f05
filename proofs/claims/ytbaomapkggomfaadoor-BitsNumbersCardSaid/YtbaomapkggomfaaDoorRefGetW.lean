/- The walk of the document's own Get. -/
import Derived.Test.YtbaomapkggomfaaDoorGetW
namespace Go.Proofs.YtbaomapkggomfaaDoor
open Go.RowKit
set_option linter.unusedVariables false
set_option maxHeartbeats 400000 in
theorem rget_ok (v : Value) (l : List UInt8) (i width : Nat) (w : World) (hv : BRow w v l) (h1 : 1 ≤ width) (h2 : width ≤ 6) (ha : i + width ≤ l.length) :
    Calls Tryd.prog 14 #[v, .int .i64 i, .int .i64 width] w fun e w' => e = .returned (.tuple #[.int .i64 (getN ((l.drop i).take width) : Nat), .int .i64 0]) ∧ w' = w := by
  obtain ⟨a, cap, rfl, c1, c2, c3⟩ := hv
  obtain ⟨b, off, rfl, hb, hc⟩ := c3 (by intro h; simp [h] at ha; omega)
  have HC := hid hc
  have HL := hid (part_len l i width ha)
  have HP := hid (fun k hk => part_at l i width k hk ha)
  clear hc c3
  unfold maxLen at c2
  obtain ⟨p, hp⟩ : ∃ p, p = (l.drop i).take width := ⟨_, rfl⟩
  rw [← hp]
  go_enter Tryd.func14, Tryd.ntmps14
  go_wp2
  go_loop [8, 9] (fun s j => ∃ k : Nat, k ≤ width ∧ j = .int .i64 k ∧ s = .int .i64 (getN (p.take k) : Nat)) (fun _ j => width - (intOf j).toNat)
  case atStart => exact ⟨0, Nat.zero_le _, rfl, rfl⟩
  case round =>
    obtain ⟨k, hk, rfl, rfl⟩ := hrel
    have hs := Nat.lt_of_lt_of_le (get_lt p k) (pow_le (by omega))
    by_cases hlt : k < width
    · have hck := HC.out (i + k) (by omega)
      have HN := hid (get_snoc p k (by rw [hp, HL.out]; exact hlt))
      have hpk : p[k]'(by rw [hp, HL.out]; exact hlt) = l[i + k] := by subst hp; exact HP.out k hlt
      rw [hpk] at HN
      clear hpk hp
      generalize l[i + k] = c at *
      generalize getN (p.take k) = s at *
      have hcl := byte_lt c
      have e1 := i64or s c hs
      go_wp2
      go_round
      case rel => exact ⟨k + 1, by omega, by go_num, by rw [HN.out]; go_num⟩
      case measure => simp [intOf]; omega
    · have HE : Hid (p.take k = p) := List.take_of_length_le (by rw [hp, HL.out]; omega)
      rw [HE.out] at hs ⊢
      clear HE hp
      go_wp2
      go_ret2
      exact ⟨rfl, rfl⟩

theorem rget_bad (v : Value) (l : List UInt8) (i width : Int) (w : World) (hv : BRow w v l) (h : ¬ (1 ≤ width ∧ width ≤ 6) ∨ i < 0 ∨ (l.length : Int) < i) :
    Calls Tryd.prog 14 #[v, .int .i64 i, .int .i64 width] w fun e w' => e = .returned (.tuple #[.int .i64 0, .int .i64 1]) ∧ w' = w := by
  obtain ⟨a, cap, rfl, c1, c2, c3⟩ := hv
  unfold maxLen at c2
  clear c3
  by_cases g1 : 1 ≤ width
  · by_cases g2 : width ≤ 6
    · by_cases g3 : i < 0
      · clear h
        go_enter Tryd.func14, Tryd.ntmps14
        go_wp2
        go_ret2
        exact ⟨rfl, rfl⟩
      · have g4 : (l.length : Int) < i := by omega
        clear h
        go_enter Tryd.func14, Tryd.ntmps14
        go_wp2
        go_ret2
        exact ⟨rfl, rfl⟩
    · clear h
      go_enter Tryd.func14, Tryd.ntmps14
      go_wp2
      go_ret2
      exact ⟨rfl, rfl⟩
  · clear h
    go_enter Tryd.func14, Tryd.ntmps14
    go_wp2
    go_ret2
    exact ⟨rfl, rfl⟩
theorem rget_short (v : Value) (l : List UInt8) (i width : Int) (w : World) (hv : BRow w v l) (g1 : 1 ≤ width) (g2 : width ≤ 6) (g3 : 0 ≤ i) (g4 : i ≤ (l.length : Int)) (g5 : (l.length : Int) - i < width) :
    Calls Tryd.prog 14 #[v, .int .i64 i, .int .i64 width] w fun e w' => e = .returned (.tuple #[.int .i64 0, .int .i64 2]) ∧ w' = w := by
  obtain ⟨a, cap, rfl, c1, c2, c3⟩ := hv
  unfold maxLen at c2
  clear c3
  go_enter Tryd.func14, Tryd.ntmps14
  go_wp2
  go_ret2
  exact ⟨rfl, rfl⟩
end Go.Proofs.YtbaomapkggomfaaDoor
