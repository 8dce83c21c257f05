/- The program's printPieces and Print6. -/
import Derived.Test.YtghhdccnocpobaaDoorIpWj
import Derived.Deep.RegionHeld3
namespace Go.Proofs.YtghhdccnocpobaaDoor
open Go.RowKit
set_option linter.unusedVariables false
set_option maxRecDepth 20000
set_option linter.unusedSimpArgs false
theorem digs16_len {x : Nat} (h : x < 65536) : (digsOf 16 x).length ≤ 4 := digsOf_len (b := 16) (by decide) (by decide) (f := 3) (by decide) (by omega)
theorem join_len : ∀ (l : List Nat), (∀ x ∈ l, x < 65536) → (joinC 58 (pcs l)).length ≤ 5 * l.length
  | [], _ => by simp [pcs, joinC]
  | [x], h => by
    have := digs16_len (h x (by simp))
    simp only [pcs, List.map_cons, List.map_nil, joinC_one, List.length_cons, List.length_nil]
    omega
  | x :: y :: r, h => by
    have h1 := digs16_len (h x (by simp))
    have h2 := join_len (y :: r) (fun z hz => h z (by simp at hz ⊢; rcases hz with e | e <;> simp [e]))
    show (digsOf 16 x ++ 58 :: joinC 58 (pcs (y :: r))).length ≤ _
    rw [List.length_append, List.length_cons]
    simp only [List.length_cons] at h2 ⊢
    omega
set_option maxHeartbeats 4000000 in
theorem ppieces_calls (v : Value) (l : List Nat) (w : World) (hv : Row f16 w v l) (hl : l.length ≤ 8) (hx : ∀ x ∈ l, x < 65536) (ht : Tab w) :
    Calls Tryd.prog 37 #[v] w fun e w' => e = .returned (.string (strOf (joinC 58 (pcs l)))) ∧ Below w.heap.size w w' := by
  have HV := hid hv
  have HT := hid ht
  have HX := hid hx
  have HJ := hid (fun k => join_len (l.take k) (fun x h => hx x (List.mem_of_mem_take h)))
  obtain ⟨a, cap, rfl, h1, h2, h3⟩ := hv
  unfold maxLen at h2
  clear h3 ht hx
  go_enter Tryd.func37, Tryd.ntmps37
  go_wp2_with fail
  go_loopw [3, 8] (fun vo vi wr => ∃ k : Nat, k ≤ l.length ∧ vi = .int .i64 (k : Int) ∧ BOwn wr w.heap.size vo (joinC 58 (pcs (l.take k))) ∧ Below w.heap.size w wr) (fun _ vi _ => l.length - (intOf vi).toNat)
  case atStart => exact ⟨0, Nat.zero_le _, rfl, Own.nil _ _ _ _, Below.refl _ _⟩
  case round =>
    obtain ⟨k, hk, rfl, ho, hb⟩ := hrel
    have HO := hid ho
    have HB := hid hb
    have HTr := hid (HT.out.below hb)
    have k0 : (0 : Int) ≤ (k : Int) := by omega
    have HLen : Hid ((joinC 58 (pcs (l.take k))).length ≤ 40) := by have := HJ.out k; rw [List.length_take] at this; show _ ≤ _; omega
    clear ho hb
    by_cases hlt : k < l.length
    · obtain ⟨b, off, rfl, hbl, hc⟩ := row_at HV.out hlt
      have hck := (HB.out.cell (p := ⟨b, off + k, none⟩) hbl).trans hc
      have hx16 := HX.out _ (List.getElem_mem hlt)
      have HTake := hid (take_more hlt)
      have HK := hid hlt
      have k1 : (k : Int) < (l.length : Int) := by omega
      clear hc
      generalize (l[k]'hlt) = x at *
      unfold f16 at hck
      have x0 : (0 : Int) ≤ (x : Int) := by omega
      have x1 : IntKind.wrap .u64 (x : Int) = (x : Int) := by rw [IntKind.wrap_u64]; omega
      have HX16 := hid hx16
      rcases Nat.eq_zero_or_pos k with h0 | h0
      · subst h0
        rw [Nat.add_zero] at hck
        have l0 : 0 < l.length := HK.out
        have HC := hid (pau16_calls w.heap.size _ _ x HX16.out wr HO.out HB.out.size (by have := HLen.out; omega) HTr.out)
        have HEq : Hid (joinC 58 (pcs (l.take 0)) ++ digsOf 16 x = joinC 58 (pcs (l.take (0 + 1)))) := by show _ = _; rw [HTake.out]; rfl
        rw [HEq.out] at HC
        clear HTake hx16 hk hlt HLen HEq HO
        go_wp2_with fail
        refine HC.out.mono ?_
        rintro e w2 ⟨v2, rfl, ho2, hb2⟩
        have HO2 := hid ho2
        have HB2 := hid (HB.out.trans hb2)
        clear ho2 hb2
        go_wp2_with fail
        go_roundw
        case rel => exact ⟨0 + 1, HK.out, by go_num, HO2.out, HB2.out⟩
        case measure => have := HK.out; simp [intOf]; omega
      · have HEq : Hid (joinC 58 (pcs (l.take k)) ++ [58] ++ digsOf 16 x = joinC 58 (pcs (l.take (k + 1)))) := by
          show _ = _
          rw [HTake.out, join_more]
          intro e
          have := congrArg List.length e
          rw [List.length_take, List.length_nil] at this
          omega
        obtain ⟨v3, w3, hr, ho3, hg3⟩ := appendStr_run HO.out ⟨#[58]⟩ (by have := HLen.out; show _ + 1 ≤ _; omega) HB.out.size
        change BOwn _ _ _ (joinC 58 (pcs (l.take k)) ++ [58]) at ho3
        have HB3 := hid (HB.out.grown hg3 HB.out.size (fun k hk => (World.ownsRow.lt HO.out k hk).1))
        have HT3 := hid (HT.out.below HB3.out)
        have HC := hid (pau16_calls w.heap.size _ _ x HX16.out w3 ho3 HB3.out.size (by have := HLen.out; rw [List.length_append]; simp only [List.length_cons, List.length_nil]; omega) HT3.out)
        rw [HEq.out] at HC
        have k2 : (0 : Int) < (k : Int) := by omega
        clear HTake hx16 hk hlt HLen HEq HO ho3 hg3 h0
        go_wp2_with (at_builtin; go_must (refine wpList_append_two hr rfl _ _ rfl rfl rfl rfl ?_))
        refine HC.out.mono ?_
        rintro e w2 ⟨v2, rfl, ho2, hb2⟩
        have HO2 := hid ho2
        have HB2 := hid (HB3.out.trans hb2)
        clear ho2 hb2
        go_wp2_with fail
        go_roundw
        case rel => exact ⟨k + 1, HK.out, by go_num, HO2.out, HB2.out⟩
        case measure => have := HK.out; simp [intOf]; omega
    · have k1 : ¬ (k : Int) < (l.length : Int) := by omega
      have hkl : k = l.length := by omega
      rw [hkl, List.take_length] at HO
      have hcv := run_string HO.out.row
      clear hkl hlt hk HLen
      go_wp2_with fail
      go_ret
      exact ⟨rfl, HB.out⟩
end Go.Proofs.YtghhdccnocpobaaDoor
