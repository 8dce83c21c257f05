/- The walks of bytes as signs: Decode, Lossy (the program's). -/
import Derived.Test.YtilamfbpbgcnpaaDoorBuF
namespace Go.Proofs.YtilamfbpbgcnpaaDoor
open Go.RowKit
set_option linter.unusedVariables false
set_option maxRecDepth 20000
/-- What Decode answers. -/
def DecPostUt (l : List UInt8) (w : World) (e : Ending) (w' : World) : Prop := (∃ v, e = .returned (.tuple #[v, .int .i64 (placeD l : Int), .int .i64 (errD l)]) ∧ IRow w' v (signsD l)) ∧ Below w.heap.size w w'
theorem DecPostUt.yes {l : List UInt8} {w w' : World} {v : Value} {o : List Int} (h : decL l = some o) (hv : IRow w' v o) (hb : Below w.heap.size w w') : DecPostUt l w (.returned (.tuple #[v, .int .i64 0, .int .i64 0])) w' := by
  refine ⟨⟨v, ?_, ?_⟩, hb⟩
  · unfold placeD errD; rw [h]; rfl
  · unfold signsD; rw [h]; exact hv
theorem DecPostUt.no {l : List UInt8} {w w' : World} {k : Nat} (h : decL l = none) (hk : badN l = k) (hb : Below w.heap.size w w') : DecPostUt l w (.returned (.tuple #[.slice none 0 0, .int .i64 (k : Int), .int .i64 4])) w' := by
  refine ⟨⟨.slice none 0 0, ?_, ?_⟩, hb⟩
  · unfold placeD errD; rw [h, hk]; rfl
  · unfold signsD; rw [h]; exact Row.nil _ _
theorem next_at {l : List UInt8} {k c n : Nat} {b : Bool} (hq : nextN (l.drop k) = (c, n, b)) {v : Value} {w : World} (hv : BRow w v (l.drop k)) (hk : k < l.length) (hlen : l.length ≤ 100000) :
    Calls Tryd.prog 77 #[v] w fun e w' => e = .returned (.tuple #[.int .i64 (c : Int), .int .i64 (n : Int), .bool b]) ∧ Below w.heap.size w w' := by
  refine (next_calls v (l.drop k) w hv (drop_ne hk) (by rw [List.length_drop]; omega)).mono fun e w' h => ?_
  unfold NextPost at h
  rw [hq] at h
  exact h
theorem one_int (w : World) (x : Int) : IRow (w.alloc (.cells #[.int .i64 x] 3)) (.slice (some ⟨w.heap.size, 0, none⟩) 1 1) [x] := Row.lit fi w [x] 3 (0, 0) (by simp)
set_option maxRecDepth 20000 in
set_option maxHeartbeats 2000000 in
theorem lossy_calls (v : Value) (l : List UInt8) (w : World) (hv : BRow w v l) (hlen : l.length ≤ 100000) :
    Calls Tryd.prog 52 #[v] w fun e w' => (∃ v', e = .returned v' ∧ IOwn w' w.heap.size v' (lossyL l)) ∧ Below w.heap.size w w' := by
  have HV := hid hv
  have HL := hid hlen
  obtain ⟨a, cap, rfl, h1, h2, h3⟩ := hv
  have hmk := makeI l.length (by omega)
  have hl1 : (l.length : Int) ≤ 100000 := by omega
  have hc1 : (l.length : Int) ≤ (cap : Int) := by omega
  have hc2 : (cap : Int) ≤ 9223372036854775807 := by unfold maxLen at h2; omega
  clear h3 hlen h1 h2
  go_enter Tryd.func52, Tryd.ntmps52
  go_wp2
  go_loopw [3, 4] (fun v i wr => ∃ (k : Nat) (o : List Int), k ≤ l.length ∧ i = .int .i64 (k : Int) ∧ IOwn wr w.heap.size v o ∧ Below w.heap.size w wr ∧ LosAt l o k) (fun _ i _ => l.length - (intOf i).toNat)
  case atStart => exact ⟨0, [], Nat.zero_le _, rfl, Own.made fi 3 w _ _ (size_madeCells _ _) (by have := HL.out; omega), (Below.refl _ _).alloc (Nat.le_refl _) _, LosAt.start l⟩
  case round =>
    obtain ⟨k, o, hk, rfl, ho, hb, hd⟩ := hrel
    have HO := hid ho
    have HB := hid hb
    have HD := hid hd
    have HS := hid hb.size
    clear hmk ho hb hd
    by_cases hlt : k < l.length
    · obtain ⟨b, off, rfl, _, _, _, hrow⟩ := (HV.out.below HB.out).from k hlt
      have HR := hid hrow
      have HK := hid hlt
      have k0 : (0 : Int) ≤ (k : Int) := by omega
      have k1 : (k : Int) < (l.length : Int) := by omega
      clear hrow hlt hk
      rcases hq : nextN (l.drop k) with ⟨c, n, wh⟩
      have HQ := hid hq
      obtain ⟨f1, f2, f3⟩ := next_fits HK.out hq
      have HF := hid (And.intro f1 f2)
      have n0 : (1 : Int) ≤ (n : Int) := by omega
      have n1 : (k : Int) + (n : Int) ≤ (l.length : Int) := by omega
      have HC := hid (next_at hq HR.out HK.out HL.out)
      clear hq f1 f2 f3
      go_wp2_with fail
      refine HC.out.mono ?_
      rintro e w1 ⟨rfl, hb1⟩
      have HB1 := hid (HB.out.trans (hb1.mono HS.out))
      have HO1 := hid (HO.out.below hb1)
      have HS1 := hid (Nat.le_trans HS.out hb1.size)
      clear hb1 HC HB HO HS HR
      have HX := hid (HD.out.step HK.out HQ.out)
      obtain ⟨v2, w2, hr, ho2, hg⟩ := appendI_run (HO1.out.alloc (.cells #[.int .i64 (c : Int)] 3)) (one_int w1 (c : Int)) (by have := HD.out.2; have := HL.out; have := HK.out; simp; omega) (by have := HS1.out; simp; omega)
      have HO2 := hid ho2
      have HB2 := hid ((HB1.out.alloc HS1.out _).grown hg (by have := HS1.out; simp; omega) (Own.lt HO1.out))
      clear ho2 hg
      go_wp2_with (at_builtin; go_must (refine wpList_append_run hr rfl _ _ rfl rfl rfl rfl ?_))
      go_roundw
      case rel => exact ⟨k + n, o ++ [(c : Int)], HF.out.2, by go_num, HO2.out, HB2.out, HX.out⟩
      case measure => have := HF.out; simp [intOf]; omega
    · have HX := hid (HD.out.done hlt)
      go_wp2_with fail
      go_ret
      exact ⟨⟨_, rfl, by rw [HX.out]; exact HO.out⟩, HB.out⟩
end Go.Proofs.YtilamfbpbgcnpaaDoor
