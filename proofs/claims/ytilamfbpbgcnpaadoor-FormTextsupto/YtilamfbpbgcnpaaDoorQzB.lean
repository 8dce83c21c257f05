/- The document's PrintForm. -/
import Derived.Test.YtilamfbpbgcnpaaDoorQyT
import Derived.Test.YtilamfbpbgcnpaaDoorBuE
import Derived.Test.YtilamfbpbgcnpaaDoorPctEb
namespace Go.Proofs.YtilamfbpbgcnpaaDoor
open Go.RowKit Go.Shelf
set_option linter.unusedVariables false
set_option maxRecDepth 20000
set_option linter.unusedSimpArgs false
theorem percL_calls (v : Value) (c : List UInt8) (w : World) (hv : BRow w v (strOf c).data.toList) (hl : c.length ≤ 1100000) :
    Calls Tryd.prog 25 #[.int .i64 8, v] w fun e w' => e = .returned (.string (strOf (pctR 8 c))) ∧ Below w.heap.size w w' :=
  Bg.percent_calls 8 v c w hv (by omega)
set_option maxRecDepth 20000 in
set_option maxHeartbeats 20000000 in
theorem printForm_calls (v : Value) (l : List Pr) (w : World) (hv : PRow w v l) (hl : l.length ≤ 1000) (hsz : ∀ p ∈ l, p.1.length ≤ 1100000 ∧ p.2.length ≤ 1100000) :
    Calls Tryd.prog 13 #[v] w fun e w' => e = .returned (.string (strOf (printR l))) ∧ Below w.heap.size w w' := by
  have HS := hid hsz
  obtain ⟨a, cap, rfl, h1, h2, h3⟩ := hv
  have H3 := hid h3
  clear h3 hsz
  unfold maxLen at h2
  go_enter Tryd.func13, Tryd.ntmps13
  go_wp2_with fail
  go_loopw [3, 4] (fun s i wr => ∃ k : Nat, k ≤ l.length ∧ i = .int .i64 k ∧ s = .string (strOf (printR (l.take k))) ∧ Below w.heap.size w wr) (fun _ i _ => l.length - (intOf i).toNat)
  case atStart => exact ⟨0, Nat.zero_le _, rfl, rfl, Below.refl _ _⟩
  case round =>
    obtain ⟨k, hk, rfl, rfl, hb⟩ := hrel
    have HB := hid hb
    by_cases hlt : k < l.length
    · obtain ⟨b, off, rfl, hbl, hc⟩ := H3.out (by intro h; simp [h] at hlt)
      have cf := fun {W : World} (hw : Below w.heap.size w W) => And.intro ((hw.cell (p := ⟨b, off + 2 * k, none⟩) hbl).trans (hc _ _ (flatP_at l k hlt).1)) ((hw.cell (p := ⟨b, off + (2 * k + 1), none⟩) hbl).trans (hc _ _ (flatP_at l k hlt).2))
      simp only [Nat.mul_comm 2 k, ← Nat.add_assoc] at cf
      have HM := hid (HS.out l[k] (List.getElem_mem hlt))
      have HA := hid (print_at l k hlt)
      have HLen := hid (print_len 1100000 (l.take k) (fun p hp => HS.out p (List.mem_of_mem_take hp)))
      have k0 : (0 : Int) ≤ (k : Int) := by omega
      have k1 : (k : Int) < (l.length : Int) := by omega
      clear hc
      generalize l[k] = c at *
      obtain ⟨c1, c2⟩ := c
      obtain ⟨ck0, ck1⟩ := cf hb
      have CF := hid (fun W hw => cf (W := W) hw)
      clear cf hb
      have HL1 : Hid ((pctR 8 c1).length ≤ 3300000 ∧ (pctR 8 c2).length ≤ 3300000 ∧ (printR (l.take k)).length ≤ 7000000000) := hid (by
        have h1 := (pctR_len 8 c1).2
        have h2 := (pctR_len 8 c2).2
        have h3 := HM.out
        have h4 := HLen.out
        simp only [List.length_take] at h3 h4
        have h5 := Nat.mul_le_mul_right (6 * 1100000 + 2) (show min k l.length ≤ 1000 by omega)
        omega)
      have hcv := fun (s : ByteArray) (W : World) => Lib.run_convert_string_bytes (P := Tryd.prog) W 9 45 5 s Tryd.underlying9 Tryd.underlying45 Tryd.underlying5
      have HZ : Hid ((strOf c1).size ≤ 3000000 ∧ (strOf c2).size ≤ 3000000 ∧ c1.length ≤ 1100000 ∧ c2.length ≤ 1100000) := hid (by
        have h3 := HM.out
        simp only at h3
        refine ⟨?_, ?_, h3.1, h3.2⟩
        · show c1.length ≤ _; omega
        · show c2.length ≤ _; omega)
      have HWA := hid (HB.out.drew.trans ((bytesW_below wr.drew (strOf c1)).mono HB.out.size))
      have HWB := hid (HB.out.drew.trans ((bytesW_below wr.drew (strOf c2)).mono HB.out.size))
      have HWAB := hid (HWA.out.trans ((bytesW_below _ (strOf c2)).mono HWA.out.size))
      have HWBA := hid (HWB.out.trans ((bytesW_below _ (strOf c1)).mono HWB.out.size))
      have ck1a := (CF.out _ HWA.out).2
      have ck0b := (CF.out _ HWB.out).1
      by_cases hz : k = 0
      · have kp : ¬ 0 < k := by omega
        have hZ0 : printR (l.take k) = [] := by subst hz; rfl
        generalize printR (l.take k) = Z at *
        obtain ⟨U, hU⟩ : ∃ U, pctR 8 c1 = U := ⟨_, rfl⟩
        obtain ⟨V, hV⟩ : ∃ V, pctR 8 c2 = V := ⟨_, rfl⟩
        obtain ⟨D, hD⟩ : ∃ D, U ++ [61] = D := ⟨_, rfl⟩
        obtain ⟨F, hF⟩ : ∃ F, D ++ V = F := ⟨_, rfl⟩
        obtain ⟨R, hR⟩ : ∃ R, Z ++ F = R := ⟨_, rfl⟩
        have b1 : strOf U ++ ⟨#[61]⟩ = strOf D := by rw [← hD]; exact str_app U [61]
        have b2 : strOf D ++ strOf V = strOf F := by rw [← hF]; exact str_app D V
        have b3 : strOf Z ++ strOf F = strOf R := by rw [← hR]; exact str_app Z F
        have hl1 : U.length ≤ 3300000 ∧ V.length ≤ 3300000 ∧ Z.length ≤ 7000000000 := by rw [← hU, ← hV]; exact HL1.out
        have hl2 : D.length = U.length + 1 ∧ F.length = U.length + 1 + V.length := ⟨by rw [← hD]; simp, by rw [← hF, ← hD]; simp only [List.length_append, List.length_cons, List.length_nil]⟩
        have z1 : ¬ 9223372036854775807 < (strOf U).size + 1 := by show ¬ _ < U.length + 1; omega
        have z2 : ¬ 9223372036854775807 < (strOf D).size + (strOf V).size := by show ¬ _ < D.length + V.length; omega
        have z3 : ¬ 9223372036854775807 < (strOf Z).size + (strOf F).size := by show ¬ _ < Z.length + F.length; omega
        have HR2 : Hid (R = printR (l.take (k + 1))) := hid (by rw [HA.out, if_pos hz, ← hR, hZ0, ← hF, ← hD, ← hU, ← hV]; simp [oneR])
        have HP1 := hid (fun v w (hv : BRow w v (strOf c1).data.toList) => by have := percL_calls v c1 w hv HZ.out.2.2.1; rwa [hU] at this)
        have HP2 := hid (fun v w (hv : BRow w v (strOf c2).data.toList) => by have := percL_calls v c2 w hv HZ.out.2.2.2; rwa [hV] at this)
        clear hl1 hl2 hU hV hZ0 hD hF hR hz
        go_wp2_with fail
        go_region_with (go_at_call 25; first
          | (refine (HP1.out _ _ (by first | exact bytesW_row _ (strOf c1) HZ.out.1 | exact (bytesW_row _ (strOf c1) HZ.out.1).below (bytesW_below _ (strOf c2)))).mono ?_
             rintro e w2 ⟨rfl, hb2⟩
             have HB2 : Hid (Below w.heap.size w w2) := hid (by first | exact HWA.out.trans (hb2.mono HWA.out.size) | exact HWAB.out.trans (hb2.mono HWAB.out.size) | exact HWBA.out.trans (hb2.mono HWBA.out.size))
             have ck1c := (CF.out w2 HB2.out).2
             have HH2 := hid hb2
             clear hb2)
          | (refine (HP2.out _ _ (by first | exact bytesW_row _ (strOf c2) HZ.out.2.1 | exact (bytesW_row _ (strOf c2) HZ.out.2.1).below HH2.out | exact ((bytesW_row _ (strOf c2) HZ.out.2.1).below (bytesW_below _ (strOf c1))).below HH2.out)).mono ?_
             rintro e w3 ⟨rfl, hb3⟩
             have HB3 : Hid (Below w.heap.size w w3) := hid (by first | exact HB2.out.trans (hb3.mono HB2.out.size) | exact (HB2.out.trans ((bytesW_below w2 (strOf c2)).mono HB2.out.size)).trans (hb3.mono (Nat.le_trans HB2.out.size (bytesW_below w2 (strOf c2)).size)))
             clear hb3))
        all_goals
          clear hcv ck0 ck1 ck1a ck0b b1 b2 b3 z1 z2 z3
          go_wp2_with fail
          go_roundw
          case rel => exact ⟨k + 1, by omega, by go_num, by rw [HR2.out], HB3.out⟩
          case measure => simp [intOf]; omega
      · have kp : (0 : Int) < (k : Int) := by omega
        generalize printR (l.take k) = Z at *
        obtain ⟨U, hU⟩ : ∃ U, pctR 8 c1 = U := ⟨_, rfl⟩
        obtain ⟨V, hV⟩ : ∃ V, pctR 8 c2 = V := ⟨_, rfl⟩
        obtain ⟨Zs, hZs⟩ : ∃ Zs, Z ++ [38] = Zs := ⟨_, rfl⟩
        obtain ⟨D, hD⟩ : ∃ D, U ++ [61] = D := ⟨_, rfl⟩
        obtain ⟨F, hF⟩ : ∃ F, D ++ V = F := ⟨_, rfl⟩
        obtain ⟨R, hR⟩ : ∃ R, Zs ++ F = R := ⟨_, rfl⟩
        have a0 : strOf Z ++ ⟨#[38]⟩ = strOf Zs := by rw [← hZs]; exact str_app Z [38]
        have b1 : strOf U ++ ⟨#[61]⟩ = strOf D := by rw [← hD]; exact str_app U [61]
        have b2 : strOf D ++ strOf V = strOf F := by rw [← hF]; exact str_app D V
        have b3 : strOf Zs ++ strOf F = strOf R := by rw [← hR]; exact str_app Zs F
        have hl1 : U.length ≤ 3300000 ∧ V.length ≤ 3300000 ∧ Z.length ≤ 7000000000 := by rw [← hU, ← hV]; exact HL1.out
        have hl2 : D.length = U.length + 1 ∧ F.length = U.length + 1 + V.length ∧ Zs.length = Z.length + 1 := ⟨by rw [← hD]; simp, by rw [← hF, ← hD]; simp only [List.length_append, List.length_cons, List.length_nil], by rw [← hZs]; simp⟩
        have z0 : ¬ 9223372036854775807 < (strOf Z).size + 1 := by show ¬ _ < Z.length + 1; omega
        have z1 : ¬ 9223372036854775807 < (strOf U).size + 1 := by show ¬ _ < U.length + 1; omega
        have z2 : ¬ 9223372036854775807 < (strOf D).size + (strOf V).size := by show ¬ _ < D.length + V.length; omega
        have z3 : ¬ 9223372036854775807 < (strOf Zs).size + (strOf F).size := by show ¬ _ < Zs.length + F.length; omega
        have HR2 : Hid (R = printR (l.take (k + 1))) := hid (by rw [HA.out, if_neg hz, ← hR, ← hZs, ← hF, ← hD, ← hU, ← hV]; simp [oneR])
        have HP1 := hid (fun v w (hv : BRow w v (strOf c1).data.toList) => by have := percL_calls v c1 w hv HZ.out.2.2.1; rwa [hU] at this)
        have HP2 := hid (fun v w (hv : BRow w v (strOf c2).data.toList) => by have := percL_calls v c2 w hv HZ.out.2.2.2; rwa [hV] at this)
        clear hl1 hl2 hU hV hZs hD hF hR
        go_wp2_with fail
        go_region_with (go_at_call 25; first
          | (refine (HP1.out _ _ (by first | exact bytesW_row _ (strOf c1) HZ.out.1 | exact (bytesW_row _ (strOf c1) HZ.out.1).below (bytesW_below _ (strOf c2)))).mono ?_
             rintro e w2 ⟨rfl, hb2⟩
             have HB2 : Hid (Below w.heap.size w w2) := hid (by first | exact HWA.out.trans (hb2.mono HWA.out.size) | exact HWAB.out.trans (hb2.mono HWAB.out.size) | exact HWBA.out.trans (hb2.mono HWBA.out.size))
             have ck1c := (CF.out w2 HB2.out).2
             have HH2 := hid hb2
             clear hb2)
          | (refine (HP2.out _ _ (by first | exact bytesW_row _ (strOf c2) HZ.out.2.1 | exact (bytesW_row _ (strOf c2) HZ.out.2.1).below HH2.out | exact ((bytesW_row _ (strOf c2) HZ.out.2.1).below (bytesW_below _ (strOf c1))).below HH2.out)).mono ?_
             rintro e w3 ⟨rfl, hb3⟩
             have HB3 : Hid (Below w.heap.size w w3) := hid (by first | exact HB2.out.trans (hb3.mono HB2.out.size) | exact (HB2.out.trans ((bytesW_below w2 (strOf c2)).mono HB2.out.size)).trans (hb3.mono (Nat.le_trans HB2.out.size (bytesW_below w2 (strOf c2)).size)))
             clear hb3))
        all_goals
          clear hcv ck0 ck1 ck1a ck0b b1 b2 b3 z1 z2 z3
          go_wp2_with fail
          go_roundw
          case rel => exact ⟨k + 1, by omega, by go_num, by rw [HR2.out], HB3.out⟩
          case measure => simp [intOf]; omega
    · have hkl : k = l.length := by omega
      subst hkl
      rw [List.take_length]
      have kk : ¬ (l.length : Int) < (l.length : Int) := by omega
      clear hb
      go_wp2_with fail
      go_ret
      exact ⟨rfl, HB.out⟩
end Go.Proofs.YtilamfbpbgcnpaaDoor
