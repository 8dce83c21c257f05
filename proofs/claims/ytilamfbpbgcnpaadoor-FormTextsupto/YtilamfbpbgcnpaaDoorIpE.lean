/- The document's Split. -/
import Derived.Test.YtilamfbpbgcnpaaDoorIpD
import Derived.Deep.DeepMust
namespace Go.Proofs.YtilamfbpbgcnpaaDoor
open Go.RowKit
set_option linter.unusedVariables false
set_option maxRecDepth 20000
/-- What has been cut off when the first k bytes have been read, and where the piece under way begins. -/
def SplitAtIp (sep : UInt8) (l : List UInt8) (k f : Nat) (o : List (List UInt8)) : Prop :=
  f ≤ k ∧ k ≤ l.length + 1 ∧ o.length ≤ k ∧ (k ≤ l.length → o ++ splitG sep ((l.drop f).take (k - f)) (l.drop k) = splitR sep l) ∧ (k = l.length + 1 → o = splitR sep l)
theorem SplitAtIp.start (sep : UInt8) (l : List UInt8) : SplitAtIp sep l 0 0 [] := by
  refine ⟨Nat.le_refl _, Nat.zero_le _, Nat.le_refl _, fun _ => ?_, fun h => by omega⟩
  simp [splitR]
theorem SplitAtIp.last {sep : UInt8} {l : List UInt8} {k f : Nat} {o : List (List UInt8)} (h : SplitAtIp sep l k f o) (hk : k = l.length) : SplitAtIp sep l (k + 1) (k + 1) (o ++ [(l.drop f).take (k - f)]) := by
  obtain ⟨h1, h2, h3, h4, h5⟩ := h
  refine ⟨Nat.le_refl _, by omega, by rw [List.length_append]; simp; omega, fun h => by omega, fun _ => ?_⟩
  have := h4 (by omega)
  rw [List.drop_of_length_le (show l.length ≤ k by omega), splitG_nil] at this
  exact this
theorem SplitAtIp.cut {sep : UInt8} {l : List UInt8} {k f : Nat} {o : List (List UInt8)} (h : SplitAtIp sep l k f o) (hk : k < l.length) (hc : l[k] = sep) : SplitAtIp sep l (k + 1) (k + 1) (o ++ [(l.drop f).take (k - f)]) := by
  obtain ⟨h1, h2, h3, h4, h5⟩ := h
  refine ⟨Nat.le_refl _, by omega, by rw [List.length_append]; simp; omega, fun _ => ?_, fun h => by omega⟩
  have := h4 (by omega)
  rw [List.drop_eq_getElem_cons hk, hc, splitG_sep] at this
  rw [← this, List.append_assoc, Nat.sub_self, List.take_zero]
  rfl
theorem SplitAtIp.more {sep : UInt8} {l : List UInt8} {k f : Nat} {o : List (List UInt8)} (h : SplitAtIp sep l k f o) (hk : k < l.length) (hc : l[k] ≠ sep) : SplitAtIp sep l (k + 1) f o := by
  obtain ⟨h1, h2, h3, h4, h5⟩ := h
  refine ⟨by omega, by omega, by omega, fun _ => ?_, fun h => by omega⟩
  have := h4 (by omega)
  rw [List.drop_eq_getElem_cons hk, splitG_other hc] at this
  rw [← this]
  congr 2
  rw [show k + 1 - f = (k - f) + 1 by omega, List.take_succ_eq_append_getElem (by rw [List.length_drop]; omega), List.getElem_drop]
  congr 2
  congr 1
  omega
set_option maxHeartbeats 2000000 in
theorem split_callsIp (s : ByteArray) (sep : UInt8) (w : World) (hs : s.size ≤ 100000) :
    Calls Tryd.prog 20 #[.string s, .int .u8 (sep.toNat : Int)] w fun e w' => (∃ v, e = .returned v ∧ SRowIp w' v (splitR sep s.data.toList)) ∧ Below w.heap.size w w' := by
  have s1 : (s.size : Int) ≤ 100000 := by omega
  have HL := hid (bytes_num s)
  have hsep := byte_lt sep
  go_enter Tryd.func20, Tryd.ntmps20
  go_wp2_with fail
  go_loopw [5, 6, 7] (fun v vf vi wr => ∃ (k f : Nat) (o : List (List UInt8)), k ≤ s.size + 1 ∧ f ≤ k ∧ vf = .int .i64 (f : Int) ∧ vi = .int .i64 (k : Int) ∧ SplitAtIp sep s.data.toList k f o ∧ SOwnIp wr w.heap.size v o ∧ Below w.heap.size w wr) (fun _ _ vi _ => s.size + 1 - (intOf vi).toNat)
  case atStart => exact ⟨0, 0, [], Nat.zero_le _, Nat.le_refl _, rfl, rfl, SplitAtIp.start _ _, Own.nil _ _ _ _, Below.refl _ _⟩
  case round =>
    obtain ⟨k, f, o, hk, hf, rfl, rfl, hsp, ho, hb⟩ := hrel
    have HS := hid hsp
    have HO := hid ho
    have HB := hid hb
    have hsz := hb.size
    have hol := hsp.2.2.1
    have k0 : (0 : Int) ≤ (k : Int) := by omega
    have f0 : (0 : Int) ≤ (f : Int) := by omega
    have f1 : (f : Int) ≤ (k : Int) := by omega
    clear hsp ho hb
    by_cases hle : k ≤ s.size
    · have HE := hid (cut_mid s f k hle)
      obtain ⟨p, hp⟩ : ∃ p, p = (s.data.toList.drop f).take (k - f) := ⟨_, rfl⟩
      rw [← hp] at HE
      have he := HE.out
      have k1 : (k : Int) ≤ (s.size : Int) := by omega
      obtain ⟨v', w1, hr, ho1, hg1⟩ := appendS_runIp (HO.out.alloc (.cells #[.string (strOf p)] 9)) (oneS_row wr p) (by simp; omega) (by simp; omega)
      have HO1 := hid ho1
      have HB1 := hid ((HB.out.alloc hsz _).grown hg1 (by simp; omega) (fun k hk => (World.ownsRow.lt HO.out k hk).1))
      clear ho1 hg1
      by_cases heq : k = s.size
      · have HX := hid (HS.out.last (by rw [HL.out]; exact heq))
        rw [← hp] at HX
        have e1 : ((k : Int) == (s.size : Int)) = true := by rw [heq]; exact beq_self_eq_true _
        have HQ := hid heq
        clear hp HE heq
        go_wp2_with (at_builtin; go_must (refine wpList_append_run hr rfl _ _ rfl rfl rfl rfl ?_))
        go_roundw
        case rel => exact ⟨k + 1, k + 1, _, by have := HQ.out; omega, Nat.le_refl _, by go_num, by go_num, HX.out, HO1.out, HB1.out⟩
        case measure => have := HQ.out; simp [intOf]; omega
      · have hlt : k < s.size := by omega
        have k2 : (k : Int) < (s.size : Int) := by omega
        have e1 : ((k : Int) == (s.size : Int)) = false := by rw [beq_eq_false_iff_ne]; omega
        have hkl : k < s.data.toList.length := by rw [HL.out]; exact hlt
        have HCut := hid (fun h => HS.out.cut hkl h)
        have HMore := hid (fun h => HS.out.more hkl h)
        obtain ⟨z, hz⟩ : ∃ z, (s[k]'hlt).toNat = z := ⟨_, rfl⟩
        have HG : Hid ((s.data.toList[k]'hkl).toNat = z) := hz
        have z9 : (z : Int) < 256 := by have := byte_lt (s[k]'hlt); omega
        have z0 : (0 : Int) ≤ (z : Int) := by omega
        have HLT := hid hlt
        by_cases hzs : z = sep.toNat
        · have HX := hid (HCut.out (UInt8.toNat_inj.1 (HG.out.trans hzs)))
          rw [← hp] at HX
          have e2 : ((z : Int) == (sep.toNat : Int)) = true := by rw [hzs]; exact beq_self_eq_true _
          clear hp HE heq HCut HMore HG hzs
          go_wp2_with (at_builtin; go_must (refine wpList_append_run hr rfl _ _ rfl rfl rfl rfl ?_))
          go_roundw
          case rel => exact ⟨k + 1, k + 1, _, by have := HLT.out; omega, Nat.le_refl _, by go_num, by go_num, HX.out, HO1.out, HB1.out⟩
          case measure => have := HLT.out; simp [intOf]; omega
        · have HX := hid (HMore.out (fun e => hzs (by rw [← HG.out, e])))
          have e2 : ((z : Int) == (sep.toNat : Int)) = false := by rw [beq_eq_false_iff_ne]; omega
          clear hp HE heq HCut HMore HG hzs HO1 HB1 hr he
          go_wp2_with fail
          go_roundw
          case rel => exact ⟨k + 1, f, o, by have := HLT.out; omega, by omega, rfl, by go_num, HX.out, HO.out, HB.out⟩
          case measure => have := HLT.out; simp [intOf]; omega
    · have k1 : ¬ (k : Int) ≤ (s.size : Int) := by omega
      have HX := hid (HS.out.2.2.2.2 (by rw [HL.out]; omega))
      clear hle
      go_wp2_with fail
      go_ret
      exact ⟨⟨_, rfl, by rw [← HX.out]; exact HO.out.row⟩, HB.out⟩
end Go.Proofs.YtilamfbpbgcnpaaDoor
