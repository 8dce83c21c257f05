/- The document's Names; two rows of one list of texts are alike. -/
import Derived.Test.YtilamfbpbgcnpaaDoorQzU
namespace Go.Proofs.YtilamfbpbgcnpaaDoor
open Go.RowKit Go.Shelf
set_option linter.unusedVariables false
set_option maxRecDepth 20000
set_option linter.unusedSimpArgs false
set_option maxHeartbeats 4000000 in
theorem names2_calls (v : Value) (l : List Pr) (w : World) (hv : PRow w v l) (hl : l.length ≤ 1000) :
    Calls Tryd.prog 16 #[v] w fun e w' => (∃ v', e = .returned v' ∧ SRowIp w' v' (namesR l)) ∧ Below w.heap.size w w' := by
  obtain ⟨a, cap, rfl, h1, h2, h3⟩ := hv
  have H3 := hid h3
  clear h3
  unfold maxLen at h2
  go_enter Tryd.func16, Tryd.ntmps16
  go_wp2_with fail
  go_loopw [3, 4] (fun s i wr => ∃ k : Nat, k ≤ l.length ∧ i = .int .i64 k ∧ SOwnIp wr w.heap.size s ((l.take k).map (·.1)) ∧ Below w.heap.size w wr) (fun _ i _ => l.length - (intOf i).toNat)
  case atStart => exact ⟨0, Nat.zero_le _, rfl, Own.nil _ _ _ _, Below.refl _ _⟩
  case round =>
    obtain ⟨k, hk, rfl, ho, hb⟩ := hrel
    have HB := hid hb
    have HO := hid ho
    by_cases hlt : k < l.length
    · obtain ⟨b, off, rfl, hbl, hc⟩ := H3.out (by intro h; simp [h] at hlt)
      have ck0 := (hb.cell (p := ⟨b, off + 2 * k, none⟩) hbl).trans (hc _ _ (flatP_at l k hlt).1)
      have ck1 := (hb.cell (p := ⟨b, off + (2 * k + 1), none⟩) hbl).trans (hc _ _ (flatP_at l k hlt).2)
      rw [Nat.mul_comm 2 k] at ck0 ck1
      rw [← Nat.add_assoc] at ck1
      have HT : Hid ((l.take (k + 1)).map (·.1) = (l.take k).map (·.1) ++ [l[k].1]) := hid (by rw [List.take_succ_eq_append_getElem hlt, List.map_append]; rfl)
      have k0 : (0 : Int) ≤ (k : Int) := by omega
      have k1 : (k : Int) < (l.length : Int) := by omega
      have hb0 := hb
      clear hc hb ho
      generalize l[k] = p at *
      obtain ⟨c1, c2⟩ := p
      have hsz := hb0.size
      have hlk : ((l.take k).map (·.1)).length ≤ 1000 := by rw [List.length_map, List.length_take]; omega
      obtain ⟨v2, w2, hr, ho2, hg2⟩ := appendS_runIp (HO.out.alloc (.cells #[.string (strOf c1)] 9)) (oneS_row wr c1) (by simp only [List.length_cons, List.length_nil]; omega) (by simp; omega)
      have hb2 : Below w.heap.size w w2 := ((hb0.alloc hsz (.cells #[.string (strOf c1)] 9)).grown hg2 (by simp; omega) (fun j hj => (World.ownsRow.lt HO.out j hj).1))
      have HO2 := hid ho2
      have HB2 := hid hb2
      clear ho2 hg2 hb0 hb2 hsz hlk
      go_wp2_with (at_builtin; go_must (refine wpList_append_run hr rfl _ _ rfl rfl rfl rfl ?_))
      clear hr
      go_roundw
      case rel => exact ⟨k + 1, by omega, by go_num, by rw [HT.out]; exact HO2.out, HB2.out⟩
      case measure => simp [intOf]; omega
    · have hkl : k = l.length := by omega
      have ho2 := ho
      rw [hkl, List.take_length] at ho2
      have HU := hid (unique_calls _ (l.map (·.1)) wr ho2.row (by rw [List.length_map]; exact hl))
      have kk : ¬ (k : Int) < (l.length : Int) := by omega
      clear ho ho2 hb hkl hlt
      go_wp2_with fail
      refine HU.out.mono ?_
      rintro e w2 ⟨⟨v', o, rfl, hr, hu⟩, hb⟩
      have e9 : o = namesR l := namesR_of hu
      subst e9
      have HB2 := hid (HB.out.trans (hb.mono HB.out.size))
      have HR2 := hid hr
      clear hb hr hu
      go_wp2_with fail
      go_ret
      exact ⟨⟨_, rfl, HR2.out⟩, HB2.out⟩
set_option maxHeartbeats 4000000 in
theorem texts_same (x y : Value) (l : List Tx) (w : World) (hx : SRowIp w x l) (hy : SRowIp w y l) (hll : l.length ≤ 1000000) :
    Calls Tryd.prog 14 #[x, y] w fun e w' => e = .returned (.bool true) ∧ Below w.heap.size w w' := by
  have HX := hid hx
  have HY := hid hy
  obtain ⟨a, cap, rfl, h1, h2, _⟩ := hx
  obtain ⟨a', cap', rfl, i1, i2, _⟩ := hy
  unfold maxLen at h2 i2
  go_enter Tryd.func14, Tryd.ntmps14
  go_wp2_with fail
  go_loopw [5] (fun i wr => ∃ k : Nat, k ≤ l.length ∧ i = .int .i64 k ∧ Below w.heap.size w wr) (fun i _ => l.length - (intOf i).toNat)
  case atStart => exact ⟨0, Nat.zero_le _, rfl, Below.refl _ _⟩
  case round =>
    obtain ⟨k, hk, rfl, hb⟩ := hrel
    have HB := hid hb
    have k0 : (0 : Int) ≤ (k : Int) := by omega
    by_cases hlt : k < l.length
    · obtain ⟨b, off, rfl, hbl, hc⟩ := row_atQ HX.out hlt
      obtain ⟨b', off', rfl, hbl', hc'⟩ := row_atQ HY.out hlt
      have ck : wr.cell? ⟨b, off + k, none⟩ = some (.string (strOf l[k])) := (hb.cell (p := ⟨b, off + k, none⟩) hbl).trans hc
      have dk : wr.cell? ⟨b', off' + k, none⟩ = some (.string (strOf l[k])) := (hb.cell (p := ⟨b', off' + k, none⟩) hbl').trans hc'
      have k1 : (k : Int) < (l.length : Int) := by omega
      clear hc hc' hb
      generalize l[k] = c at *
      go_wp2_with fail
      go_region
      go_wp2_with fail
      go_roundw
      case rel => exact ⟨k + 1, by omega, by go_num, HB.out.drew⟩
      case measure => simp [intOf]; omega
    · have kk : ¬ (k : Int) < (l.length : Int) := by omega
      clear hb
      go_wp2_with fail
      go_ret
      exact ⟨rfl, HB.out⟩
theorem namesR_len (l : List Pr) : (namesR l).length ≤ l.length := by
  have h1 := Lib.compact_length_le (sortR (l.map (·.1)))
  have h2 : (sortR (l.map (·.1))).length = l.length := (List.length_mergeSort _).trans (List.length_map _)
  show (Lib.compact _).length ≤ _
  omega
end Go.Proofs.YtilamfbpbgcnpaaDoor
