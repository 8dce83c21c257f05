/- The walks of bytes as signs: Decode, Lossy (the document's own). -/
import Derived.Test.YtilamfbpbgcnpaaDoorUtfOz
import Derived.Test.YtilamfbpbgcnpaaDoorUtfD
namespace Go.Proofs.YtilamfbpbgcnpaaDoor
open Go.RowKit
set_option linter.unusedVariables false
set_option maxRecDepth 20000
theorem one_at {l : List UInt8} {k c n : Nat} {b : Bool} (hq : nextN (l.drop k) = (c, n, b)) {v : Value} {w : World} (hv : BRow w v l) (hk : k < l.length) (hlen : l.length ≤ 100000) :
    Calls Tryd.prog 44 #[v, .int .i64 (k : Int)] w fun e w' => (∃ d : Nat, e = .returned (.tuple #[.int .i64 (d : Int), .int .i64 (n : Int), .bool b]) ∧ (b = true → d = c)) ∧ w' = w := by
  refine (one_calls v l k w hv hk hlen).mono fun e w' h => ?_
  unfold OnePost at h
  rw [hq] at h
  exact h
set_option maxRecDepth 20000 in
set_option maxHeartbeats 2000000 in
theorem rdecode_calls (v : Value) (l : List UInt8) (w : World) (hv : BRow w v l) (hlen : l.length ≤ 100000) :
    Calls Tryd.prog 30 #[v] w fun e w' => DecPostUt l w e w' := by
  have HV := hid hv
  have HL := hid hlen
  obtain ⟨a, cap, rfl, h1, h2, h3⟩ := hv
  have hl1 : (l.length : Int) ≤ 100000 := by omega
  clear h3 hlen h1 h2
  go_enter Tryd.func30, Tryd.ntmps30
  go_wp2
  go_loopw [5, 6] (fun v i wr => ∃ (k : Nat) (o : List Int), k ≤ l.length ∧ i = .int .i64 (k : Int) ∧ IOwn wr w.heap.size v o ∧ Below w.heap.size w wr ∧ DecAt l o k) (fun _ i _ => l.length - (intOf i).toNat)
  case atStart => exact ⟨0, [], Nat.zero_le _, rfl, Own.nil _ _ _ _, Below.refl _ _, DecAt.start l⟩
  case round =>
    obtain ⟨k, o, hk, rfl, ho, hb, hd⟩ := hrel
    have HO := hid ho
    have HB := hid hb
    have HD := hid hd
    have HS := hid hb.size
    clear ho hb hd
    by_cases hlt : k < l.length
    · have HR := hid (HV.out.below HB.out)
      have HK := hid hlt
      have k0 : (0 : Int) ≤ (k : Int) := by omega
      have k1 : (k : Int) < (l.length : Int) := by omega
      clear hlt hk
      rcases hq : nextN (l.drop k) with ⟨c, n, wh⟩
      have HQ := hid hq
      obtain ⟨f1, f2, f3⟩ := next_fits HK.out hq
      have HF := hid (And.intro f1 f2)
      have n0 : (1 : Int) ≤ (n : Int) := by omega
      have n1 : (k : Int) + (n : Int) ≤ (l.length : Int) := by omega
      have HC := hid (one_at hq HR.out HK.out HL.out)
      clear hq f1 f2 f3
      go_wp2_with fail
      refine HC.out.mono ?_
      rintro e w1 ⟨⟨d, rfl, hd⟩, rfl⟩
      cases wh with
      | false =>
        have HX := hid (HD.out.fail HK.out HQ.out)
        clear hd
        go_wp2_with fail
        go_ret3
        exact DecPostUt.no HX.out.1 HX.out.2 HB.out
      | true =>
        obtain rfl := hd rfl
        clear hd
        have HX := hid (HD.out.step HK.out HQ.out)
        obtain ⟨v2, w2, hr, ho2, hg⟩ := appendI_run (HO.out.alloc (.cells #[.int .i64 (d : Int)] 3)) (one_int w1 (d : Int)) (by have := HD.out.2.2; have := HL.out; have := HK.out; simp; omega) (by have := HS.out; simp; omega)
        have HO2 := hid ho2
        have HB2 := hid ((HB.out.alloc HS.out _).grown hg (by have := HS.out; simp; omega) (Own.lt HO.out))
        clear ho2 hg
        go_wp2_with (at_builtin; go_must (refine wpList_append_run hr rfl _ _ rfl rfl rfl rfl ?_))
        go_roundw
        case rel => exact ⟨k + n, o ++ [(d : Int)], HF.out.2, by go_num, HO2.out, HB2.out, HX.out⟩
        case measure => have := HF.out; simp [intOf]; omega
    · have HX := hid (HD.out.done hlt)
      have HR := hid HO.out.row
      go_wp2_with fail
      go_ret3
      exact DecPostUt.yes HX.out HR.out HB.out
set_option maxRecDepth 20000 in
set_option maxHeartbeats 2000000 in
theorem rlossy_calls (v : Value) (l : List UInt8) (w : World) (hv : BRow w v l) (hlen : l.length ≤ 100000) :
    Calls Tryd.prog 35 #[v] w fun e w' => (∃ v', e = .returned v' ∧ IOwn w' w.heap.size v' (lossyL l)) ∧ Below w.heap.size w w' := by
  have HV := hid hv
  have HL := hid hlen
  obtain ⟨a, cap, rfl, h1, h2, h3⟩ := hv
  have hl1 : (l.length : Int) ≤ 100000 := by omega
  clear h3 hlen h1 h2
  go_enter Tryd.func35, Tryd.ntmps35
  go_wp2
  go_loopw [3, 4] (fun v i wr => ∃ (k : Nat) (o : List Int), k ≤ l.length ∧ i = .int .i64 (k : Int) ∧ IOwn wr w.heap.size v o ∧ Below w.heap.size w wr ∧ LosAt l o k) (fun _ i _ => l.length - (intOf i).toNat)
  case atStart => exact ⟨0, [], Nat.zero_le _, rfl, Own.nil _ _ _ _, Below.refl _ _, LosAt.start l⟩
  case round =>
    obtain ⟨k, o, hk, rfl, ho, hb, hd⟩ := hrel
    have HO := hid ho
    have HB := hid hb
    have HD := hid hd
    have HS := hid hb.size
    clear ho hb hd
    by_cases hlt : k < l.length
    · have HR := hid (HV.out.below HB.out)
      have HK := hid hlt
      have k0 : (0 : Int) ≤ (k : Int) := by omega
      have k1 : (k : Int) < (l.length : Int) := by omega
      clear hlt hk
      rcases hq : nextN (l.drop k) with ⟨c, n, wh⟩
      have HQ := hid hq
      obtain ⟨f1, f2, f3⟩ := next_fits HK.out hq
      have HF := hid (And.intro f1 f2)
      have n0 : (1 : Int) ≤ (n : Int) := by omega
      have n1 : (k : Int) + (n : Int) ≤ (l.length : Int) := by omega
      have HC := hid (one_at hq HR.out HK.out HL.out)
      clear hq f1 f2 f3
      go_wp2_with fail
      refine HC.out.mono ?_
      rintro e w1 ⟨⟨d, rfl, hd⟩, rfl⟩
      have HX := hid (HD.out.step HK.out HQ.out)
      cases wh with
      | false =>
        obtain rfl := next_repair HQ.out
        clear hd
        obtain ⟨v2, w2, hr, ho2, hg⟩ := appendI_run (HO.out.alloc (.cells #[.int .i64 65533] 3)) (one_int w1 65533) (by have := HD.out.2; have := HL.out; have := HK.out; simp; omega) (by have := HS.out; simp; omega)
        have HO2 := hid ho2
        have HB2 := hid ((HB.out.alloc HS.out _).grown hg (by have := HS.out; simp; omega) (Own.lt HO.out))
        clear ho2 hg
        go_wp2_with (at_builtin; go_must (refine wpList_append_run hr rfl _ _ rfl rfl rfl rfl ?_))
        go_roundw
        case rel => exact ⟨k + n, o ++ [65533], HF.out.2, by go_num, HO2.out, HB2.out, HX.out⟩
        case measure => have := HF.out; simp [intOf]; omega
      | true =>
        obtain rfl := hd rfl
        clear hd
        obtain ⟨v2, w2, hr, ho2, hg⟩ := appendI_run (HO.out.alloc (.cells #[.int .i64 (d : Int)] 3)) (one_int w1 (d : Int)) (by have := HD.out.2; have := HL.out; have := HK.out; simp; omega) (by have := HS.out; simp; omega)
        have HO2 := hid ho2
        have HB2 := hid ((HB.out.alloc HS.out _).grown hg (by have := HS.out; simp; omega) (Own.lt HO.out))
        clear ho2 hg
        go_wp2_with (at_builtin; go_must (refine wpList_append_run hr rfl _ _ rfl rfl rfl rfl ?_))
        go_roundw
        case rel => exact ⟨k + n, o ++ [(d : Int)], HF.out.2, by go_num, HO2.out, HB2.out, HX.out⟩
        case measure => have := HF.out; simp [intOf]; omega
    · have HX := hid (HD.out.done hlt)
      go_wp2_with fail
      go_ret
      exact ⟨⟨_, rfl, by rw [HX.out]; exact HO.out⟩, HB.out⟩
end Go.Proofs.YtilamfbpbgcnpaaDoor
