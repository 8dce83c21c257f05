/- The walk of the document's Map. -/
import Derived.Test.YtkbfjhdpepbphaaFoldJ
namespace Go.Proofs.Ytkbfjhdpepbphaa
open Go.RowKit
set_option linter.unusedVariables false
theorem kind_four (c : Int) : kindOf c = 1 ∨ kindOf c = 2 ∨ kindOf c = 3 ∨ kindOf c = 4 := by
  rw [← kind_alike]
  unfold kindR
  repeat' split
  all_goals simp
theorem to_len (c : Int) : (toOf c).length ≤ 2 := by unfold toOf; split; exact signs_len _ _; simp
set_option maxRecDepth 20000 in
set_option maxHeartbeats 4000000 in
theorem rmap_post (v : Value) (l : List Int) (w : World) (hv : IRow w v l) (hlen : l.length ≤ 100000) :
    Calls Try.prog 15 #[v] w fun e w' => MapPost l w e w' := by
  have HV := hid hv
  have HL := hid hlen
  obtain ⟨a, cap, rfl, h1, h2, h3⟩ := hv
  have hl1 : (l.length : Int) ≤ 100000 := by omega
  have hc1 : (l.length : Int) ≤ (cap : Int) := by omega
  have hc2 : (cap : Int) ≤ 9223372036854775807 := by unfold maxLen at h2; omega
  clear h3 hlen h1 h2
  go_enter Try.func15, Try.ntmps15
  go_wp2
  go_loopw [5, 6] (fun v i wr => ∃ k : Nat, k ≤ l.length ∧ i = .int .i64 (k : Int) ∧ IOwn wr w.heap.size v (mapOf (l.take k)) ∧ Below w.heap.size w wr ∧ Fine (l.take k)) (fun _ i _ => l.length - (intOf i).toNat)
  case atStart => exact ⟨0, Nat.zero_le _, rfl, Own.nil _ _ _ _, Below.refl _ _, by intro c hc; simp at hc⟩
  case round =>
    obtain ⟨k, hk, rfl, ho, hb, hf⟩ := hrel
    have HO := hid ho
    have HB := hid hb
    have HF := hid hf
    have HS := hid hb.size
    clear ho hb hf
    by_cases hlt : k < l.length
    · obtain ⟨b, off, rfl, hbl, hc⟩ : ∃ b off, a = some ⟨b, off, none⟩ ∧ b < w.heap.size ∧ ∀ i (h : i < l.length), w.cell? ⟨b, off + i, none⟩ = some (fi l[i]) := by
        obtain ⟨a', cap', he, _, _, h3⟩ := HV.out
        injection he with e1 e2 e3
        subst e1
        exact h3 (by intro h; simp [h] at hlt)
      have HC : Hid (∀ w', Below w.heap.size w w' → w'.cell? ⟨b, off + k, none⟩ = some (.int .i64 l[k])) := fun w' hb => (hb.cell (p := ⟨b, off + k, none⟩) hbl).trans (hc k hlt)
      have hck := HC.out wr HB.out
      have HK := hid hlt
      have HSn := hid (map_snoc l k hlt)
      have HBad : Hid (kindOf l[k] = 4 → BadAt l k) := fun h => ⟨hlt, h, HF.out⟩
      have HNx : Hid (kindOf l[k] ≠ 4 → Fine (l.take (k + 1))) := by
        intro h
        rw [List.take_succ_eq_append_getElem hlt]
        intro c hc
        rcases List.mem_append.1 hc with h' | h'
        · exact HF.out c h'
        · rw [List.mem_singleton.1 h']; exact h
      have k0 : (0 : Int) ≤ (k : Int) := by omega
      have k1 : (k : Int) < (l.length : Int) := by omega
      have HLn : Hid ((mapOf (l.take k)).length ≤ 500000) := by
        show _ ≤ _
        have h1 := map_len (l.take k)
        have h2 := HL.out
        have h3 : (l.take k).length ≤ l.length := by rw [List.length_take]; omega
        omega
      clear hc
      generalize l[k] = c at *
      clear hk hlt HF
      have HKC := hid (fun w => rkind_calls c w)
      rw [kind_alike] at HKC
      go_wp2_with fail
      refine (HKC.out _).mono ?_
      rintro e w3 ⟨rfl, hb3⟩
      have HB3 := hid (HB.out.trans (hb3.mono HS.out))
      have HO3 := hid (HO.out.below hb3)
      have HS3 := hid (Nat.le_trans HS.out hb3.size)
      have hck3 := HC.out w3 HB3.out
      clear hb3 HKC HB HO HS hck
      rcases kind_four c with h | h | h | h
      · rw [signs_one h] at HSn
        have HX := hid (HNx.out (by rw [h]; decide))
        rw [h]
        obtain ⟨v2, w2, hr, ho2, hg⟩ := appendI_run (HO3.out.alloc (.cells #[.int .i64 c] 3)) (Row.lit fi w3 [c] 3 (0, 0) (by simp)) (by have := HLn.out; simp; omega) (by have := HS3.out; simp; omega)
        have HO4 := hid ho2
        have HB4 := hid ((HB3.out.alloc HS3.out _).grown hg (by have := HS3.out; simp; omega) (Own.lt HO3.out))
        clear ho2 hg h HBad HNx
        go_wp2_with (at_builtin; go_must (refine wpList_append_run hr rfl _ _ rfl rfl rfl rfl ?_))
        go_roundw
        case rel => exact ⟨k + 1, HK.out, by go_num, by rw [HSn.out]; exact HO4.out, HB4.out, HX.out⟩
        case measure => have := HK.out; simp [intOf]; omega
      · rw [signs_to h] at HSn
        have HX := hid (HNx.out (by rw [h]; decide))
        have HT := hid (to_alike h)
        rw [h]
        clear h HBad HNx
        go_wp2_with fail
        refine (rto_calls c _).mono ?_
        rintro e w4 ⟨⟨tv, rfl, ht⟩, hb4⟩
        rw [HT.out] at ht
        obtain ⟨v2, w2, hr, ho2, hg⟩ := appendI_run (HO3.out.below hb4) ht.row (by have := HLn.out; have := to_len c; omega) (Nat.le_trans HS3.out hb4.size)
        have HO5 := hid ho2
        have HB5 := hid ((HB3.out.trans (hb4.mono HS3.out)).grown hg (Nat.le_trans HS3.out hb4.size) (Own.lt HO3.out))
        clear ho2 hg ht hb4 hck3
        go_wp2_with (at_builtin; go_must (refine wpList_append_run hr rfl _ _ rfl rfl rfl rfl ?_))
        go_roundw
        case rel => exact ⟨k + 1, HK.out, by go_num, by rw [HSn.out]; exact HO5.out, HB5.out, HX.out⟩
        case measure => have := HK.out; simp [intOf]; omega
      · rw [signs_none (by rw [h]; decide) (by rw [h]; decide), List.append_nil] at HSn
        have HX := hid (HNx.out (by rw [h]; decide))
        rw [h]
        clear h HBad HNx hck3
        go_wp2_with fail
        go_roundw
        case rel => exact ⟨k + 1, HK.out, by go_num, by rw [HSn.out]; exact HO3.out, HB3.out, HX.out⟩
        case measure => have := HK.out; simp [intOf]; omega
      · have HX := hid (HBad.out h)
        rw [h]
        clear h HBad HNx hck3
        go_wp2_with fail
        go_ret3
        exact MapPost.bad HX.out rfl HB3.out
    · have hkl : k = l.length := by omega
      have HX : Hid (Fine l) := by have := HF.out; rwa [hkl, List.take_length] at this
      have HO2 : Hid (IOwn wr w.heap.size u5 (mapOf l)) := by
        have := HO.out
        rwa [hkl, List.take_length] at this
      clear HO HF
      go_wp2_with fail
      go_ret3
      exact MapPost.fine HX.out rfl HO2.out HB.out
theorem rmap_fine (v : Value) (l : List Int) (w : World) (hv : IRow w v l) (hlen : l.length ≤ 100000) (h : Fine l) :
    Calls Try.prog 15 #[v] w fun e w' => (∃ v', e = .returned (.tuple #[v', .int .i64 0, .bool true]) ∧ IOwn w' w.heap.size v' (mapOf l)) ∧ Below w.heap.size w w' := by
  refine (rmap_post v l w hv hlen).mono ?_
  rintro e w' ⟨⟨_, v', he, ho⟩ | ⟨i, hi, _⟩, hb⟩
  · exact ⟨⟨v', he, ho⟩, hb⟩
  · exact absurd h hi.not_fine
theorem rmap_bad (v : Value) (l : List Int) (w : World) (hv : IRow w v l) (hlen : l.length ≤ 100000) (i : Nat) (h : BadAt l i) :
    Calls Try.prog 15 #[v] w fun e w' => e = .returned (.tuple #[.slice none 0 0, .int .i64 (i : Int), .bool false]) ∧ Below w.heap.size w w' := by
  refine (rmap_post v l w hv hlen).mono ?_
  rintro e w' ⟨⟨g, _⟩ | ⟨j, hj, he⟩, hb⟩
  · exact absurd g h.not_fine
  · rw [h.uniq hj]; exact ⟨he, hb⟩
end Go.Proofs.Ytkbfjhdpepbphaa
