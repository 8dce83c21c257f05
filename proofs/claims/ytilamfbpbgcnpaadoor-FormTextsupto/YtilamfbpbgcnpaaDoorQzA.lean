/- The document's spaced and FormText. -/
import Derived.Test.YtilamfbpbgcnpaaDoorQyP
import Derived.Test.YtilamfbpbgcnpaaDoorPctG
import Derived.Test.YtilamfbpbgcnpaaDoorUtfR
import Derived.Lib.ConvBytes
namespace Go.Proofs.YtilamfbpbgcnpaaDoor
open Go.RowKit Go.Shelf
set_option linter.unusedVariables false
set_option maxRecDepth 20000
set_option linter.unusedSimpArgs false
/-- The bytes of a text in a block, those ahead of k with blanks for plus signs. -/
def SpAt (w : World) (g : Nat) (X : List UInt8) (k : Nat) : Prop := g < w.heap.size ∧ (∀ j c, X[j]? = some c → w.cell? ⟨g, j, none⟩ = some (fb (if j < k then sp1 c else c))) ∧ ∀ j, j < X.length → w.frozen? ⟨g, j, none⟩ = false
theorem SpAt.cell {w : World} {g : Nat} {X : List UInt8} {k : Nat} (h : SpAt w g X k) {c : UInt8} (hc : X[k]? = some c) : w.cell? ⟨g, k, none⟩ = some (.int .u8 (c.toNat : Int)) := by
  rw [h.2.1 k c hc, if_neg (by omega)]
theorem SpAt.keep {w : World} {g : Nat} {X : List UInt8} {k : Nat} (h : SpAt w g X k) {c : UInt8} (hc : X[k]? = some c) (hu : sp1 c = c) : SpAt w g X (k + 1) := by
  refine ⟨h.1, fun j d hd => ?_, h.2.2⟩
  rw [h.2.1 j d hd]
  by_cases hjk : j = k
  · subst hjk
    rw [hc] at hd
    injection hd with hd
    subst hd
    rw [if_neg (by omega), if_pos (by omega), hu]
  · by_cases hp : j < k
    · rw [if_pos hp, if_pos (by omega)]
    · rw [if_neg hp, if_neg (by omega)]
theorem SpAt.put {w : World} {g : Nat} {X : List UInt8} {k : Nat} (h : SpAt w g X k) {c : UInt8} (hc : X[k]? = some c) : SpAt (w.setCell ⟨g, k, none⟩ (fb (sp1 c))) g X (k + 1) := by
  refine ⟨by simp [World.setCell]; exact h.1, fun j d hd => ?_, fun j hj => (World.frozen?_setCell _ _ _ _).trans (h.2.2 j hj)⟩
  by_cases hjk : j = k
  · subst hjk
    rw [hc] at hd
    injection hd with hd
    subst hd
    rw [World.cell?_setCell_same _ _ _ (h.cell hc), if_pos (by omega)]
  · rw [World.cell?_setCell_other _ _ _ _ (by intro e; injection e with e1 e2; exact hjk e2.symm), h.2.1 j d hd]
    by_cases hp : j < k
    · rw [if_pos hp, if_pos (by omega)]
    · rw [if_neg hp, if_neg (by omega)]
theorem SpAt.made (w : World) (s : ByteArray) : SpAt (Lib.bytesWorld w 5 s) w.heap.size s.data.toList 0 := by
  refine ⟨by rw [Lib.bytesWorld_size]; omega, fun j c hc => ?_, fun j hj => ?_⟩
  · have hj : j < s.size := by
      rw [← bytes_num]
      rcases Nat.lt_or_ge j s.data.toList.length with h' | h'
      · exact h'
      · rw [List.getElem?_eq_none h'] at hc; cases hc
    rw [Lib.bytesWorld_cell w 5 s j hj, if_neg (by omega)]
    show some (Value.int .u8 ((s.data.toList.getD j 0).toNat : Int)) = _
    rw [List.getD_eq_getElem?_getD, hc]; rfl
  · rw [bytes_num] at hj
    have hz : j < (Lib.bytesCells w 5 s).size := by
      unfold Lib.bytesCells
      rw [Array.size_append]
      have : (s.data.map fun b => Value.int .u8 b.toNat).size = s.size := by rw [Array.size_map]; rfl
      omega
    simp [World.frozen?, Lib.bytesWorld_at_new]
    omega
theorem SpAt.row {w : World} {g cap : Nat} {X : List UInt8} (h : SpAt w g X X.length) (hc : X.length ≤ cap) (hm : cap ≤ maxLen) : BRow w (.slice (some ⟨g, 0, none⟩) X.length cap) (X.map sp1) := by
  refine ⟨_, cap, by rw [List.length_map], by rw [List.length_map]; exact hc, hm, fun _ => ⟨g, 0, rfl, h.1, fun i hi => ?_⟩⟩
  rw [List.length_map] at hi
  have := h.2.1 i X[i] (List.getElem?_eq_getElem hi)
  rw [if_pos hi] at this
  rw [Nat.zero_add, this, List.getElem_map]
theorem bytesW_belowZ (w : World) (s : ByteArray) : Below w.heap.size w (Lib.bytesWorld w 5 s) :=
  ⟨rfl, rfl, rfl, by rw [Lib.bytesWorld_size]; omega, fun k hk => Lib.bytesWorld_at_old w _ _ k hk⟩
set_option maxHeartbeats 2000000 in
theorem spaced_calls (s : ByteArray) (w : World) (hs : s.size ≤ 100000) :
    Calls Tryd.prog 37 #[.string s] w fun e w' => e = .returned (.string (strOf (s.data.toList.map sp1))) ∧ Below w.heap.size w w' := by
  have hcv := Lib.run_convert_string_bytes (P := Tryd.prog) w 9 45 5 s Tryd.underlying9 Tryd.underlying45 Tryd.underlying5
  have hG1 := grownCap_ge w s.size 0 5
  have hG2 := grownCap_le_maxLen w s.size 0 5 (by unfold maxLen; omega)
  have HB := hid (bytesW_belowZ w s)
  have HM := hid (SpAt.made w s)
  have HN := hid (bytes_num s)
  have HG1 := hid hG1
  have HG2 := hid hG2
  have G1 : (s.size : Int) ≤ (grownCap w s.size 0 5 : Int) := by omega
  have G2 : (grownCap w s.size 0 5 : Int) ≤ 9223372036854775807 := by unfold maxLen at hG2; omega
  clear hG1 hG2 hs
  generalize grownCap w s.size 0 5 = G at *
  generalize Lib.bytesWorld w 5 s = w1 at *
  go_enter Tryd.func37, Tryd.ntmps37
  go_wp2_with fail
  clear hcv
  obtain ⟨X, hX⟩ : ∃ X, s.data.toList = X := ⟨_, rfl⟩
  rw [hX] at HM HN
  have HX := hid hX
  clear hX
  go_loopw [4] (fun i wr => ∃ k : Nat, k ≤ s.size ∧ i = .int .i64 k ∧ SpAt wr w.heap.size X k ∧ Below w.heap.size w wr) (fun i _ => s.size - (intOf i).toNat)
  case atStart => exact ⟨0, Nat.zero_le _, rfl, HM.out, HB.out⟩
  case round =>
    obtain ⟨k, hk, rfl, hy, hb⟩ := hrel
    have HBr := hid hb
    have HY := hid hy
    clear hb
    by_cases hlt : k < s.size
    · have hltX : k < X.length := by rw [HN.out]; exact hlt
      have hc := List.getElem?_eq_getElem hltX
      have hcell := hy.cell hc
      have hfz := hy.2.2 k hltX
      have HPut := hid (hy.put hc)
      have HKp := hid (hy.keep hc)
      have HSp : Hid (X[k] ≠ 43 → sp1 X[k] = X[k]) := hid (fun h => if_neg h)
      generalize X[k] = c at *
      have k0 : (0 : Int) ≤ (k : Int) := by omega
      have k1 : (k : Int) < (s.size : Int) := by omega
      clear hy hc hltX
      by_cases h43 : c = 43
      · subst h43
        have HS : Hid (SpAt (wr.setCell ⟨w.heap.size, k, none⟩ (.int .u8 32)) w.heap.size X (k + 1)) := HPut
        have HBs := hid (HBr.out.setCell (p := ⟨w.heap.size, k, none⟩) (Nat.le_refl _) (.int .u8 32))
        have h1 : (((43 : UInt8).toNat : Nat) : Int) = 43 := rfl
        rw [h1] at hcell
        go_wp2_with fail
        go_roundw
        case rel => exact ⟨k + 1, by omega, by go_num, HS.out, HBs.out⟩
        case measure => simp [intOf]; omega
      · have HS := hid (HKp.out (HSp.out h43))
        have hz : (((c.toNat : Nat) : Int) == 43) = false := by
          rw [beq_eq_false_iff_ne]
          intro e
          exact h43 (UInt8.toNat_inj.1 (by show c.toNat = 43; omega))
        generalize c.toNat = z at *
        clear h43
        go_wp2_with fail
        go_roundw
        case rel => exact ⟨k + 1, by omega, by go_num, HS.out, HBr.out⟩
        case measure => simp [intOf]; omega
    · have hkl : k = s.size := by omega
      subst hkl
      have hrow := SpAt.row (X := X) (by rw [HN.out]; exact hy) (by rw [HN.out]; exact HG1.out) HG2.out
      rw [HN.out] at hrow
      have hs := run_string hrow
      have kk : ¬ (s.size : Int) < (s.size : Int) := by omega
      clear hrow hy
      go_wp2_with fail
      go_ret
      exact ⟨by rw [HX.out]; rfl, HBr.out⟩
theorem formText_calls (s : ByteArray) (w : World) (hs : s.size ≤ 40000) :
    Calls Tryd.prog 21 #[.string s] w fun e w' => e = .returned (.string (strOf (plainR s.data.toList))) ∧ Below w.heap.size w w' := by
  have H1 := hid (spaced_calls s w (by omega))
  have hl : (s.data.toList.map sp1).length = s.size := by rw [List.length_map, bytes_num]
  have hp : plainR s.data.toList = textL (lossyL (unR (s.data.toList.map sp1))) := by unfold plainR; rw [rep_map]
  have HP := hid hp
  generalize s.data.toList.map sp1 = Y at *
  have hu := unR_len _ _ (Nat.le_refl Y.length)
  have H2 := hid (fun w1 => unpercent_calls (strOf Y) w1 (by show Y.length ≤ _; omega))
  have H3 := hid (fun w1 v hv => rlossy_calls v (unR Y) w1 hv (by omega))
  have hy := (lossy_all _ (unR Y) (Nat.le_refl _)).2
  have H4 := hid (fun w1 v hv => rtext_calls v (lossyL (unR Y)) w1 hv (by omega))
  clear hs hl hu hy hp
  go_enter Tryd.func21, Tryd.ntmps21
  go_wp2_with fail
  refine H1.out.mono ?_
  rintro e w1 ⟨rfl, hb1⟩
  have HB := hid hb1
  clear hb1
  go_wp2_with fail
  refine (H2.out w1).mono ?_
  rintro e w2 ⟨⟨v, rfl, hv⟩, hb2⟩
  have HV := hid hv
  have HB2 := hid (below_trans HB.out hb2)
  clear hv hb2
  go_wp2_with fail
  refine (H3.out w2 v HV.out).mono ?_
  rintro e w3 ⟨⟨v2, rfl, hv⟩, hb2⟩
  have HV2 := hid hv.row
  have HB3 := hid (below_trans HB2.out hb2)
  clear hv hb2
  go_wp2_with fail
  refine (H4.out w3 v2 HV2.out).mono ?_
  rintro e w4 ⟨rfl, hb2⟩
  have HB4 := hid (below_trans HB3.out hb2)
  clear hb2
  go_wp2_with fail
  go_ret
  exact ⟨by rw [HP.out]; rfl, HB4.out⟩
end Go.Proofs.YtilamfbpbgcnpaaDoor
