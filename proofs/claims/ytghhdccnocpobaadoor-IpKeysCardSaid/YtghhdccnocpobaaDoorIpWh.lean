/- The program's Print4. -/
import Derived.Test.YtghhdccnocpobaaDoorIpWg
namespace Go.Proofs.YtghhdccnocpobaaDoor
open Go.RowKit
set_option linter.unusedVariables false
set_option maxRecDepth 20000
set_option linter.unusedSimpArgs false
/-- What Print4 has written. -/
def out4 (a b c d : Nat) : Nat → List UInt8
  | 0 => []
  | 1 => digsOf 10 a ++ [46]
  | 2 => (digsOf 10 a ++ [46]) ++ digsOf 10 b ++ [46]
  | 3 => ((digsOf 10 a ++ [46]) ++ digsOf 10 b ++ [46]) ++ digsOf 10 c ++ [46]
  | _ => (((digsOf 10 a ++ [46]) ++ digsOf 10 b ++ [46]) ++ digsOf 10 c ++ [46]) ++ digsOf 10 d
theorem out4_len {a b c d : Nat} (h1 : (digsOf 10 a).length ≤ 3) (h2 : (digsOf 10 b).length ≤ 3) (h3 : (digsOf 10 c).length ≤ 3) (h4 : (digsOf 10 d).length ≤ 3) : ∀ k, (out4 a b c d k).length ≤ 30
  | 0 => by simp [out4]
  | 1 => by simp [out4]; omega
  | 2 => by simp [out4]; omega
  | 3 => by simp [out4]; omega
  | _ + 4 => by simp [out4]; omega
set_option maxHeartbeats 4000000 in
theorem ipr4_calls (n : Nat) (w : World) (hn : n < 4294967296) (ht : Tab w) : Calls Tryd.prog 16 #[.int .u32 (n : Int)] w fun e w' => e = .returned (.string (strOf (print4R n))) ∧ Below w.heap.size w w' := by
  obtain ⟨x0, hx0⟩ : ∃ x, n / 16777216 = x := ⟨_, rfl⟩
  obtain ⟨y0, hy0⟩ : ∃ y, x0 % 256 = y := ⟨_, rfl⟩
  have e0 : (n : Int) / 16777216 = (x0 : Int) := by omega
  have f0 : IntKind.wrap .u8 (x0 : Int) = (y0 : Int) := by rw [IntKind.wrap_u8]; omega
  have E0 : (x0 : Int) % 256 = (y0 : Int) := by omega
  have g0 : (0 : Int) ≤ (y0 : Int) := by omega
  have k0 : (y0 : Int) < 256 := by omega
  have K0 : Hid (y0 < 256) := by show _ < _; omega
  have m0 : (0 : Int) ≤ (x0 : Int) := by omega
  have m9 : (x0 : Int) = (y0 : Int) := by omega
  have Z0 := hid (digs_len3 y0 K0.out)
  obtain ⟨x1, hx1⟩ : ∃ x, n / 65536 = x := ⟨_, rfl⟩
  obtain ⟨y1, hy1⟩ : ∃ y, x1 % 256 = y := ⟨_, rfl⟩
  have e1 : (n : Int) / 65536 = (x1 : Int) := by omega
  have f1 : IntKind.wrap .u8 (x1 : Int) = (y1 : Int) := by rw [IntKind.wrap_u8]; omega
  have E1 : (x1 : Int) % 256 = (y1 : Int) := by omega
  have g1 : (0 : Int) ≤ (y1 : Int) := by omega
  have k1 : (y1 : Int) < 256 := by omega
  have K1 : Hid (y1 < 256) := by show _ < _; omega
  have m1 : (0 : Int) ≤ (x1 : Int) := by omega
  have Z1 := hid (digs_len3 y1 K1.out)
  obtain ⟨x2, hx2⟩ : ∃ x, n / 256 = x := ⟨_, rfl⟩
  obtain ⟨y2, hy2⟩ : ∃ y, x2 % 256 = y := ⟨_, rfl⟩
  have e2 : (n : Int) / 256 = (x2 : Int) := by omega
  have f2 : IntKind.wrap .u8 (x2 : Int) = (y2 : Int) := by rw [IntKind.wrap_u8]; omega
  have E2 : (x2 : Int) % 256 = (y2 : Int) := by omega
  have g2 : (0 : Int) ≤ (y2 : Int) := by omega
  have k2 : (y2 : Int) < 256 := by omega
  have K2 : Hid (y2 < 256) := by show _ < _; omega
  have m2 : (0 : Int) ≤ (x2 : Int) := by omega
  have Z2 := hid (digs_len3 y2 K2.out)
  obtain ⟨y3, hy3⟩ : ∃ y, n % 256 = y := ⟨_, rfl⟩
  have f3 : IntKind.wrap .u8 (n : Int) = (y3 : Int) := by rw [IntKind.wrap_u8]; omega
  have E3 : (n : Int) % 256 = (y3 : Int) := by omega
  have g3 : (0 : Int) ≤ (y3 : Int) := by omega
  have k3 : (y3 : Int) < 256 := by omega
  have K3 : Hid (y3 < 256) := by show _ < _; omega
  have Z3 := hid (digs_len3 y3 K3.out)
  have n0 : (0 : Int) ≤ (n : Int) := by omega
  have n1 : (n : Int) < 4294967296 := by omega
  have HX : Hid (out4 y0 y1 y2 y3 4 = print4R n) := by
    show _ = _
    unfold print4R joinC joinC joinC joinC out4
    rw [show n / 16777216 = y0 by omega, show n / 65536 % 256 = y1 by omega, show n / 256 % 256 = y2 by omega, show n % 256 = y3 by omega]
    simp
  have HLen := hid (out4_len Z0.out Z1.out Z2.out Z3.out)
  have HT := hid ht
  clear ht hn hx0 hy0 hx1 hy1 hx2 hy2 hy3
  go_enter Tryd.func16, Tryd.ntmps16
  go_wp2_with fail
  go_loopw [3, 4] (fun vo vl wr => Below w.heap.size w wr ∧ ((vl = .int .i64 (3) ∧ BOwn wr w.heap.size vo (out4 y0 y1 y2 y3 0)) ∨ (vl = .int .i64 (2) ∧ BOwn wr w.heap.size vo (out4 y0 y1 y2 y3 1)) ∨ (vl = .int .i64 (1) ∧ BOwn wr w.heap.size vo (out4 y0 y1 y2 y3 2)) ∨ (vl = .int .i64 (0) ∧ BOwn wr w.heap.size vo (out4 y0 y1 y2 y3 3)) ∨ (vl = .int .i64 (-1) ∧ BOwn wr w.heap.size vo (out4 y0 y1 y2 y3 4)))) (fun _ vl _ => (intOf vl + 1).toNat)
  case atStart => exact ⟨Below.refl _ _, .inl ⟨rfl, Own.nil _ _ _ _⟩⟩
  case round =>
    obtain ⟨hb, hrel⟩ := hrel
    have HB := hid hb
    have HTr := hid (HT.out.below hb)
    clear hb
    rcases hrel with ⟨rfl, ho⟩ | ⟨rfl, ho⟩ | ⟨rfl, ho⟩ | ⟨rfl, ho⟩ | ⟨rfl, ho⟩
    · have HO := hid ho
      clear ho
      have HL : Hid ((out4 y0 y1 y2 y3 0).length ≤ 100000) := by have := HLen.out 0; show _ ≤ _; omega
      have HL2 : Hid ((out4 y0 y1 y2 y3 0 ++ digsOf 10 y0).length ≤ 999990) := by have := HLen.out 0; have := Z0.out; show _ ≤ _; rw [List.length_append]; omega
      have HC := hid (pau10_calls w.heap.size _ _ y0 K0.out wr HO.out HB.out.size HL.out HTr.out)
      go_wp2_with fail
      refine HC.out.mono ?_
      rintro e w2 ⟨v2, rfl, ho2, hb2⟩
      have HO2 := hid ho2
      have HB2 := hid (HB.out.trans hb2)
      clear ho2 hb2
      obtain ⟨v3, w3, hr, ho3, hg3⟩ := appendStr_run HO2.out ⟨#[46]⟩ (by have := HL2.out; show _ + 1 ≤ _; omega) HB2.out.size
      change BOwn _ _ _ (out4 y0 y1 y2 y3 1) at ho3
      have HO3 := hid ho3
      have HB3 := hid (HB2.out.grown hg3 HB2.out.size (fun k hk => (World.ownsRow.lt HO2.out k hk).1))
      clear ho3 hg3
      go_wp2_with (at_builtin; go_must (refine wpList_append_two hr rfl _ _ rfl rfl rfl rfl ?_))
      go_roundw
      case rel => exact ⟨HB3.out, .inr (.inl ⟨rfl, HO3.out⟩)⟩
      case measure => simp [intOf]
    · have HO := hid ho
      clear ho
      have HL : Hid ((out4 y0 y1 y2 y3 1).length ≤ 100000) := by have := HLen.out 1; show _ ≤ _; omega
      have HL2 : Hid ((out4 y0 y1 y2 y3 1 ++ digsOf 10 y1).length ≤ 999990) := by have := HLen.out 1; have := Z1.out; show _ ≤ _; rw [List.length_append]; omega
      have HC := hid (pau10_calls w.heap.size _ _ y1 K1.out wr HO.out HB.out.size HL.out HTr.out)
      go_wp2_with fail
      refine HC.out.mono ?_
      rintro e w2 ⟨v2, rfl, ho2, hb2⟩
      have HO2 := hid ho2
      have HB2 := hid (HB.out.trans hb2)
      clear ho2 hb2
      obtain ⟨v3, w3, hr, ho3, hg3⟩ := appendStr_run HO2.out ⟨#[46]⟩ (by have := HL2.out; show _ + 1 ≤ _; omega) HB2.out.size
      change BOwn _ _ _ (out4 y0 y1 y2 y3 2) at ho3
      have HO3 := hid ho3
      have HB3 := hid (HB2.out.grown hg3 HB2.out.size (fun k hk => (World.ownsRow.lt HO2.out k hk).1))
      clear ho3 hg3
      go_wp2_with (at_builtin; go_must (refine wpList_append_two hr rfl _ _ rfl rfl rfl rfl ?_))
      go_roundw
      case rel => exact ⟨HB3.out, .inr (.inr (.inl ⟨rfl, HO3.out⟩))⟩
      case measure => simp [intOf]
    · have HO := hid ho
      clear ho
      have HL : Hid ((out4 y0 y1 y2 y3 2).length ≤ 100000) := by have := HLen.out 2; show _ ≤ _; omega
      have HL2 : Hid ((out4 y0 y1 y2 y3 2 ++ digsOf 10 y2).length ≤ 999990) := by have := HLen.out 2; have := Z2.out; show _ ≤ _; rw [List.length_append]; omega
      have HC := hid (pau10_calls w.heap.size _ _ y2 K2.out wr HO.out HB.out.size HL.out HTr.out)
      go_wp2_with fail
      refine HC.out.mono ?_
      rintro e w2 ⟨v2, rfl, ho2, hb2⟩
      have HO2 := hid ho2
      have HB2 := hid (HB.out.trans hb2)
      clear ho2 hb2
      obtain ⟨v3, w3, hr, ho3, hg3⟩ := appendStr_run HO2.out ⟨#[46]⟩ (by have := HL2.out; show _ + 1 ≤ _; omega) HB2.out.size
      change BOwn _ _ _ (out4 y0 y1 y2 y3 3) at ho3
      have HO3 := hid ho3
      have HB3 := hid (HB2.out.grown hg3 HB2.out.size (fun k hk => (World.ownsRow.lt HO2.out k hk).1))
      clear ho3 hg3
      go_wp2_with (at_builtin; go_must (refine wpList_append_two hr rfl _ _ rfl rfl rfl rfl ?_))
      go_roundw
      case rel => exact ⟨HB3.out, .inr (.inr (.inr (.inl ⟨rfl, HO3.out⟩)))⟩
      case measure => simp [intOf]
    · have HO := hid ho
      clear ho
      have HL : Hid ((out4 y0 y1 y2 y3 3).length ≤ 100000) := by have := HLen.out 3; show _ ≤ _; omega
      have HL2 : Hid ((out4 y0 y1 y2 y3 3 ++ digsOf 10 y3).length ≤ 999990) := by have := HLen.out 3; have := Z3.out; show _ ≤ _; rw [List.length_append]; omega
      have HC := hid (pau10_calls w.heap.size _ _ y3 K3.out wr HO.out HB.out.size HL.out HTr.out)
      go_wp2_with fail
      refine HC.out.mono ?_
      rintro e w2 ⟨v2, rfl, ho2, hb2⟩
      change BOwn _ _ _ (out4 y0 y1 y2 y3 4) at ho2
      have HO2 := hid ho2
      have HB2 := hid (HB.out.trans hb2)
      clear ho2 hb2
      go_wp2_with fail
      go_roundw
      case rel => exact ⟨HB2.out, .inr (.inr (.inr (.inr ⟨rfl, HO2.out⟩)))⟩
      case measure => simp [intOf]
    · have HO := hid ho
      clear ho
      have hcv := run_string HO.out.row
      go_wp2_with fail
      go_ret
      exact ⟨by rw [← HX.out]; rfl, HB.out⟩
end Go.Proofs.YtghhdccnocpobaaDoor
