/- The program's Decode. -/
import Derived.Test.YtilamfbpbgcnpaaDoorPctC
import Derived.Test.YtilamfbpbgcnpaaDoorPctD
namespace Go.Proofs.YtilamfbpbgcnpaaDoor
open Go.RowKit
set_option linter.unusedVariables false
set_option maxRecDepth 20000
attribute [local go_sem ↓] Go.wp_at_zero Go.wp_at_succ
theorem rest_of (s : ByteArray) (k : Nat) (hk : k ≤ s.size) : (s.extract k s.size).data.toList = s.data.toList.drop k ∧ (s.extract k s.size).size = s.size - k := by
  constructor
  · rw [ByteArray.data_extract, Array.toList_extract, List.extract_eq_take_drop]
    rw [List.take_of_length_le (by rw [List.length_drop, bytes_num]; omega)]
  · rw [ByteArray.size_extract]; omega
theorem next_step {l o : List UInt8} {k m : Nat} {c : UInt8} (hk : k < l.length) (h : o ++ unR (l.drop k) = unR l) (hn : nextR (l.drop k) = (c, m)) : (o ++ [c]) ++ unR (l.drop (k + m)) = unR l := by
  have hne : l.drop k ≠ [] := by intro e; have := congrArg List.length e; simp at this; omega
  rw [← h, unR_next hne, hn, List.drop_drop]
  simp
theorem next_more {l : List UInt8} {k m : Nat} {c : UInt8} (hk : k < l.length) (hn : nextR (l.drop k) = (c, m)) : 1 ≤ m ∧ k + m ≤ l.length := by
  have hne : l.drop k ≠ [] := by intro e; have := congrArg List.length e; simp at this; omega
  have := nextR_size hne
  rw [hn, List.length_drop] at this
  simp only [] at this
  omega
theorem next_done {l o : List UInt8} {k : Nat} (hk : ¬ k < l.length) (h : o ++ unR (l.drop k) = unR l) : o = unR l := by
  rw [List.drop_of_length_le (by omega), unR_nil, List.append_nil] at h
  exact h
set_option maxHeartbeats 2000000 in
theorem decode_callsPc (s : ByteArray) (w : World) (hs : s.size ≤ 100000) :
    Calls Tryd.prog 49 #[.string s] w fun e w' => (∃ v, e = .returned v ∧ BRow w' v (unR s.data.toList)) ∧ Below w.heap.size w w' := by
  have hmk := makeB s.size (by omega)
  have HL := hid (bytes_num s)
  have s1 : (s.size : Int) ≤ 100000 := by omega
  go_enter Tryd.func49, Tryd.ntmps49
  go_wp2
  go_loopw [3, 4] (fun v i wr => ∃ (k : Nat) (o : List UInt8), k ≤ s.size ∧ i = .int .i64 k ∧ o.length ≤ k ∧ BOwn wr w.heap.size v o ∧ Below w.heap.size w wr ∧ o ++ unR (s.data.toList.drop k) = unR s.data.toList) (fun _ i _ => s.size - (intOf i).toNat)
  case atStart => exact ⟨0, [], Nat.zero_le _, rfl, Nat.le_refl _, Own.made' w _ (by omega), (Below.refl _ _).alloc (Nat.le_refl _) _, rfl⟩
  case round =>
    obtain ⟨k, o, hk, rfl, hol, ho, hb, hu⟩ := hrel
    clear hmk
    have HO := hid ho
    have HB := hid hb
    have HU := hid hu
    have HOL := hid hol
    have hsz := hb.size
    clear ho hb hu hol
    have k0 : (0 : Int) ≤ (k : Int) := by omega
    by_cases hlt : k < s.size
    · obtain ⟨r1, r2⟩ := rest_of s k hk
      have HC := hid (next_callsPc (s.extract k s.size))
      rw [r1, r2] at HC
      obtain ⟨c, m, hcm⟩ : ∃ c m, nextR (s.data.toList.drop k) = (c, m) := ⟨_, _, rfl⟩
      rw [hcm] at HC
      have hkl : k < s.data.toList.length := by rw [HL.out]; exact hlt
      have HS := hid (next_step hkl HU.out hcm)
      have HM := hid (next_more hkl hcm)
      have hm := HM.out
      rw [HL.out] at hm
      obtain ⟨m1, m2⟩ := hm
      have HC2 := hid (fun w => HC.out w (by omega) (by omega))
      have m3 : (1 : Int) ≤ (m : Int) := by omega
      have m4 : (k : Int) + (m : Int) ≤ (s.size : Int) := by omega
      have k1 : (k : Int) < (s.size : Int) := by omega
      clear r1 r2 hcm hkl HC HM
      obtain ⟨v', w1, hr, ho1, hg1⟩ := append_run (HO.out.alloc (.cells #[.int .u8 (c.toNat : Int)] 5)) (one_rowPc wr c) (by have := HOL.out; simp; omega) (by simp; omega)
      have HO1 := hid ho1
      have HB1 := hid ((HB.out.alloc hsz _).grown hg1 (by simp; omega) (fun k hk => (World.ownsRow.lt HO.out k hk).1))
      have hcl := byte_lt c
      clear ho1 hg1
      go_wp2_with fail
      refine (HC2.out _).mono ?_
      rintro e wz ⟨rfl, rfl⟩
      go_wp2_with (at_builtin; go_must (refine wpList_append_run hr rfl _ _ rfl rfl rfl rfl ?_))
      go_roundw
      case rel => exact ⟨k + m, o ++ [c], by omega, by go_num, by have := HOL.out; simp; omega, HO1.out, HB1.out, HS.out⟩
      case measure => simp [intOf]; omega
    · have HX := hid (next_done (by rw [HL.out]; exact hlt) HU.out)
      have k1 : ¬ (k : Int) < (s.size : Int) := by omega
      go_wp2
      go_ret
      exact ⟨⟨_, rfl, by rw [← HX.out]; exact HO.out.row⟩, HB.out⟩
end Go.Proofs.YtilamfbpbgcnpaaDoor
