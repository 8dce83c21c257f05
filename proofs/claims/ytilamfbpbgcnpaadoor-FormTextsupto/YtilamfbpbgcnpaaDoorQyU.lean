/- The statements' utf: are all names and values UTF-8? -/
import Derived.Test.YtilamfbpbgcnpaaDoorQyS
import Derived.Test.YtilamfbpbgcnpaaDoorUtfRb
namespace Go.Proofs.YtilamfbpbgcnpaaDoor
open Go.RowKit Go.Shelf
set_option linter.unusedVariables false
set_option maxRecDepth 20000
set_option linter.unusedSimpArgs false
def u8B (x : List UInt8) : Bool := (decL x).isSome
theorem u8_iff {x : List UInt8} : u8B x = true ↔ U8 x := by
  unfold u8B U8
  exact Option.isSome_iff_exists
def utfOne (p : Pr) : Bool := u8B (p.1 ++ p.2) && u8B p.1
def utfB (l : List Pr) : Bool := l.all utfOne
theorem utf_iff {l : List Pr} : utfB l = true ↔ ∀ p ∈ l, U8 p.1 ∧ U8 p.2 := by
  unfold utfB
  rw [List.all_eq_true]
  refine ⟨fun h p hp => ?_, fun h p hp => ?_⟩
  · have := h p hp
    unfold utfOne at this
    rw [Bool.and_eq_true, u8_iff, u8_iff] at this
    exact ⟨this.2, this.2.right this.1⟩
  · unfold utfOne
    rw [Bool.and_eq_true, u8_iff, u8_iff]
    exact ⟨(h p hp).1.app (h p hp).2, (h p hp).1⟩
def errI (x : List UInt8) : Int := if u8B x = true then 0 else 4
theorem errI_yes {x : List UInt8} (h : u8B x = true) : errI x = 0 := if_pos h
theorem errI_no {x : List UInt8} (h : u8B x = false) : errI x = 4 := if_neg (by rw [h]; decide)
theorem errD_eq (x : List UInt8) : errD x = errI x := by
  unfold errD errI u8B
  cases decL x <;> simp
theorem dec_calls (v : Value) (x : List UInt8) (w : World) (hv : BRow w v x) (hlen : x.length ≤ 2500000) :
    Calls Tryd.prog 30 #[v] w fun e w' => (∃ u k, e = .returned (.tuple #[u, .int .i64 k, .int .i64 (errI x)])) ∧ Below w.heap.size w w' := by
  refine (Bg.rdecode_calls v x w hv hlen).mono ?_
  rintro e w' ⟨⟨u, rfl, _⟩, hb⟩
  exact ⟨⟨u, _, by rw [errD_eq]⟩, hb⟩
theorem str_app (a b : List UInt8) : strOf a ++ strOf b = strOf (a ++ b) := by
  have h : ∀ x y : ByteArray, x.data = y.data → x = y := fun x y h => by cases x; cases y; cases h; rfl
  refine h _ _ ?_
  rw [ByteArray.data_append]
  apply Array.ext'
  simp [strOf]
set_option maxHeartbeats 4000000 in
theorem utf_calls (v : Value) (l : List Pr) (w : World) (hv : PRow w v l) (hsz : ∀ p ∈ l, p.1.length ≤ 1100000 ∧ p.2.length ≤ 1100000) :
    Calls Tryd.prog 17 #[v] w fun e w' => e = .returned (.bool (utfB l)) ∧ Below w.heap.size w w' := by
  have HS := hid hsz
  obtain ⟨a, cap, rfl, h1, h2, h3⟩ := hv
  have H3 := hid h3
  clear h3 hsz
  unfold maxLen at h2
  go_enter Tryd.func17, Tryd.ntmps17
  go_wp2_with fail
  go_loopw [3] (fun i wr => ∃ k : Nat, k ≤ l.length ∧ i = .int .i64 k ∧ (l.take k).all utfOne = true ∧ Below w.heap.size w wr) (fun i _ => l.length - (intOf i).toNat)
  case atStart => exact ⟨0, Nat.zero_le _, rfl, rfl, Below.refl _ _⟩
  case round =>
    obtain ⟨k, hk, rfl, hall, hb⟩ := hrel
    have HB := hid hb
    have HAll := hid hall
    clear hall
    by_cases hlt : k < l.length
    · obtain ⟨b, off, rfl, hbl, hc⟩ := H3.out (by intro h; simp [h] at hlt)
      have cf := fun {W : World} (hw : Below w.heap.size w W) => And.intro ((hw.cell (p := ⟨b, off + 2 * k, none⟩) hbl).trans (hc _ _ (flatP_at l k hlt).1)) ((hw.cell (p := ⟨b, off + (2 * k + 1), none⟩) hbl).trans (hc _ _ (flatP_at l k hlt).2))
      simp only [Nat.mul_comm 2 k, ← Nat.add_assoc] at cf
      have HM := hid (HS.out l[k] (List.getElem_mem hlt))
      have HT : Hid ((l.take (k + 1)).all utfOne = utfOne l[k]) := hid (by rw [List.take_succ_eq_append_getElem hlt, List.all_append, HAll.out]; simp)
      have HF : Hid (utfOne l[k] = false → utfB l = false) := hid (fun h => by
        unfold utfB
        rw [List.all_eq_false]
        exact ⟨l[k], List.getElem_mem hlt, by rw [h]; decide⟩)
      have k0 : (0 : Int) ≤ (k : Int) := by omega
      have k1 : (k : Int) < (l.length : Int) := by omega
      clear hc
      generalize l[k] = c at *
      obtain ⟨c1, c2⟩ := c
      obtain ⟨ck0, ck1⟩ := cf hb
      have CF := hid (fun W hw => cf (W := W) hw)
      clear cf hb
      have hap := str_app c1 c2
      have hz : ¬ 9223372036854775807 < (strOf c1).size + (strOf c2).size := by show ¬ 9223372036854775807 < c1.length + c2.length; have := HM.out; simp only at this; omega
      have hcv := Lib.run_convert_string_bytes (P := Tryd.prog) wr.drew 9 45 5 (strOf (c1 ++ c2)) Tryd.underlying9 Tryd.underlying45 Tryd.underlying5
      have HBw := hid (HB.out.drew.trans ((bytesW_below wr.drew (strOf (c1 ++ c2))).mono HB.out.size))
      have HR := hid (bytesW_row wr.drew (strOf (c1 ++ c2)) (by show (c1 ++ c2).length ≤ _; have := HM.out; rw [List.length_append]; simp only at this; omega))
      have HD := hid (fun v W hv => dec_calls v (c1 ++ c2) W hv (by have := HM.out; rw [List.length_append]; simp only at this; omega))
      generalize Lib.bytesWorld wr.drew 5 (strOf (c1 ++ c2)) = w1 at *
      go_wp2_with fail
      go_region_with ((go_at_call 30; refine (HD.out _ _ HR.out).mono ?_; rintro e w2 ⟨⟨u1, k1, rfl⟩, hb2⟩; have HB2 := hid (HBw.out.trans (hb2.mono HBw.out.size)); clear hb2))
      all_goals
        clear hcv ck0 ck1 hap hz
        have dk := (CF.out w2 HB2.out).1
        have hcv2 := Lib.run_convert_string_bytes (P := Tryd.prog) w2 9 45 5 (strOf c1) Tryd.underlying9 Tryd.underlying45 Tryd.underlying5
        have HBw2 := hid (HB2.out.trans ((bytesW_below w2 (strOf c1)).mono HB2.out.size))
        have HR2 := hid (bytesW_row w2 (strOf c1) (by show c1.length ≤ _; have := HM.out; (try simp only at this); omega))
        have HD2 := hid (fun v W hv => dec_calls v c1 W hv (by have := HM.out; (try simp only at this); omega))
        generalize Lib.bytesWorld w2 5 (strOf c1) = w3 at *
        go_wp2_with fail
        clear hcv2 dk
        refine (HD2.out _ _ HR2.out).mono ?_
        rintro e w4 ⟨⟨u2, k2, rfl⟩, hb4⟩
        have HB4 := hid (HBw2.out.trans (hb4.mono HBw2.out.size))
        clear hb4
        cases hu1 : u8B (c1 ++ c2) with
        | true =>
          have e1 := errI_yes hu1
          cases hu2 : u8B c1 with
          | true =>
            have e2 := errI_yes hu2
            have HO : Hid (utfOne (c1, c2) = true) := hid (by unfold utfOne; rw [hu1, hu2]; rfl)
            clear hu1 hu2
            go_wp2_with fail
            go_roundw
            case rel => exact ⟨k + 1, by omega, by go_num, by rw [HT.out, HO.out], HB4.out⟩
            case measure => simp [intOf]; omega
          | false =>
            have e2 := errI_no hu2
            have HO : Hid (utfOne (c1, c2) = false) := hid (by unfold utfOne; rw [hu1, hu2]; rfl)
            clear hu1 hu2
            go_wp2_with fail
            go_ret
            exact ⟨by rw [HF.out HO.out]; rfl, HB4.out⟩
        | false =>
          have e1 := errI_no hu1
          have HO : Hid (utfOne (c1, c2) = false) := hid (by unfold utfOne; rw [hu1]; rfl)
          clear hu1
          go_wp2_with fail
          go_ret
          exact ⟨by rw [HF.out HO.out]; rfl, HB4.out⟩
    · have hkl : k = l.length := by omega
      subst hkl
      have HE : Hid (utfB l = true) := hid (by have := HAll.out; rwa [List.take_length] at this)
      clear hb
      go_wp2_with fail
      go_ret
      exact ⟨by rw [HE.out]; rfl, HB.out⟩
end Go.Proofs.YtilamfbpbgcnpaaDoor
