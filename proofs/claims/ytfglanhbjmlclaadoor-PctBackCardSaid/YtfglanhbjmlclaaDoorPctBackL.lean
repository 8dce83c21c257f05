/- The walk of the statement 'there and back'. -/
import Derived.Test.YtfglanhbjmlclaaDoorPctH
namespace Go.Proofs.YtfglanhbjmlclaaDoor
open Go.RowKit
set_option linter.unusedVariables false
set_option maxRecDepth 20000
theorem str_size (L : List UInt8) : (strOf L).size = L.length := rfl
theorem str_data (L : List UInt8) : (strOf L).data.toList = L := rfl
/-- What a text by percent signs is: told once more, and which of its bytes are in its set. -/
def EncT (set : Int) (l : List UInt8) (t : ByteArray) : Prop := t.size ≤ 24000 ∧ l.length ≤ t.size ∧ (∀ k (h : k < t.size), inR set t[k].toNat = true → t[k].toNat = 37 ∨ (set = 8 ∧ t[k].toNat = 43)) ∧ (set ≠ 8 → (∀ c ∈ l, c ≠ 37) → unR t.data.toList = l)
theorem EncT.mk (set : Int) (l : List UInt8) (hl : l.length ≤ 8000) : EncT set l (strOf (pctR set l)) := by
  have h := pctR_len set l
  refine ⟨by rw [str_size]; omega, by rw [str_size]; omega, fun k hk hi => ?_, fun h8 hn => ?_⟩
  · have hk' : k < (pctR set l).length := hk
    show ((pctR set l)[k]'hk').toNat = 37 ∨ (set = 8 ∧ ((pctR set l)[k]'hk').toNat = 43)
    rcases enc_out _ (List.getElem_mem hk') hi with e1 | ⟨e1, e2⟩
    · exact .inl (by rw [e1]; rfl)
    · exact .inr ⟨e1, by rw [e2]; rfl⟩
  · rw [str_data]
    exact un_enc h8 l (fun c hc h37 => absurd h37 (hn c hc))
theorem comp_back (l : List UInt8) : unR (strOf (pctR 7 l)).data.toList = l := by
  rw [str_data]
  exact un_enc (by decide) l (fun c _ _ => in_7_37)
set_option maxHeartbeats 4000000 in
theorem pctBack_in (v : Value) (l : List UInt8) (set : Int) (w : World) (ht : Tab w) (hv : BRow w v l) (hl : l.length ≤ 8000) :
    Calls Tryd.prog 5 #[v, .int .i64 set] w fun e w' => e = .returned (.bool true) ∧ Below w.heap.size w w' := by
  have HT := hid ht
  have HV := hid hv
  have HE := hid (EncT.mk set l hl)
  have HC := hid (comp_back l)
  have hp7 := (pctR_len 7 l).2
  have HP7 : Hid ((strOf (pctR 7 l)).size ≤ 100000) := by show (strOf (pctR 7 l)).size ≤ _; rw [str_size]; omega
  obtain ⟨a, cap, rfl, h1, h2, h3⟩ := hv
  have l1 : ¬ (8000 : Int) < (l.length : Int) := by omega
  have l2 : (l.length : Int) ≤ 8000 := by omega
  clear ht h3 h2 h1 hp7
  go_enter Tryd.func5, Tryd.ntmps5
  go_wp2_with fail
  refine (pfirst_calls _ HT.out).mono ?_
  rintro e w1 ⟨rfl, hb1⟩
  have HB1 := hid hb1
  have HT1 := hid (HT.out.below hb1)
  have HV1 := hid (HV.out.below hb1)
  clear hb1 HT HV
  go_wp2_with fail
  refine (encode_calls 7 _ l _ HT1.out HV1.out (by omega)).mono ?_
  rintro e w2 ⟨rfl, hb2⟩
  have HB2 := hid (below_trans HB1.out hb2)
  have HT2 := hid (HT1.out.below hb2)
  have HV2 := hid (HV1.out.below hb2)
  clear hb2 HB1 HT1 HV1
  generalize strOf (pctR 7 l) = c7 at *
  go_wp2_with fail
  refine (decode_calls c7 _ HP7.out).mono ?_
  rintro e w3 ⟨⟨vd, rfl, hd⟩, hb3⟩
  rw [HC.out] at hd
  have HD3 := hid hd
  have HB3 := hid (below_trans HB2.out hb3)
  have HT3 := hid (HT2.out.below hb3)
  have HV3 := hid (HV2.out.below hb3)
  clear hb3 hd HB2 HT2 HV2
  go_wp2_with fail
  refine (bytes_calls _ _ _ _ _ HD3.out HV3.out).mono ?_
  rintro e w4 ⟨rfl, rfl⟩
  rw [beq_self_eq_true]
  clear HD3
  go_wp2_with fail
  refine (encode_calls set _ l _ HT3.out HV3.out (by omega)).mono ?_
  rintro e w5 ⟨rfl, hb5⟩
  have HB5 := hid (below_trans HB3.out hb5)
  have HT5 := hid (HT3.out.below hb5)
  have HV5 := hid (HV3.out.below hb5)
  clear hb5 HB3 HT3 HV3
  generalize strOf (pctR set l) = t at *
  have t1 : (t.size : Int) ≤ 24000 := by have := HE.out.1; omega
  go_wp2_with fail
  go_loop [7] (fun vi => ∃ k : Nat, k ≤ t.size ∧ vi = .int .i64 (k : Int)) (fun vi => t.size - (intOf vi).toNat)
  case atStart => exact ⟨0, Nat.zero_le _, rfl⟩
  case round =>
    obtain ⟨k, hk, rfl⟩ := hrel
    have k0 : (0 : Int) ≤ (k : Int) := by omega
    by_cases hlt : k < t.size
    · have HIn := hid (HE.out.2.2.1 k hlt)
      obtain ⟨z, hz⟩ : ∃ z, (t[k]'hlt).toNat = z := ⟨_, rfl⟩
      have z9 : z < 256 := by rw [← hz]; exact byte_lt _
      rw [hz] at HIn
      have z8 : (z : Int) < 256 := by omega
      have z0 : (0 : Int) ≤ (z : Int) := by omega
      have k1 : (k : Int) < (t.size : Int) := by omega
      have HK := hid hlt
      have HC2 := hid (in_calls set z z9 _ HT5.out)
      clear z9 hk
      obtain ⟨b, hb⟩ : ∃ b, inR set z = b := ⟨_, rfl⟩
      rw [hb] at HC2 HIn
      cases b with
      | false =>
        clear HIn hb
        go_wp2_with fail
        refine HC2.out.mono ?_
        rintro e w6 ⟨rfl, rfl⟩
        go_wp2_with fail
        go_round
        case rel => exact ⟨k + 1, HK.out, by go_num⟩
        case measure => have := HK.out; simp [intOf]; omega
      | true =>
        by_cases hz37 : z = 37
        · subst hz37
          clear HIn hb
          go_wp2_with fail
          refine HC2.out.mono ?_
          rintro e w6 ⟨rfl, rfl⟩
          go_wp2_with fail
          go_round
          case rel => exact ⟨k + 1, HK.out, by go_num⟩
          case measure => have := HK.out; simp [intOf]; omega
        · have h8 : set = 8 ∧ z = 43 := by
            rcases HIn.out rfl with h | h
            · exact absurd h hz37
            · exact h
          obtain ⟨h8, hz43⟩ := h8
          have e8 : (set == 8) = true := by rw [h8]; rfl
          subst hz43
          clear HIn hb hz37 h8
          go_wp2_with fail
          refine HC2.out.mono ?_
          rintro e w6 ⟨rfl, rfl⟩
          go_wp2_with fail
          go_round
          case rel => exact ⟨k + 1, HK.out, by go_num⟩
          case measure => have := HK.out; simp [intOf]; omega
    · have k1 : ¬ (k : Int) < (t.size : Int) := by omega
      by_cases h8 : set = 8
      · have e8 : (set == 8) = true := by rw [h8]; rfl
        have f8 : (set != 8) = false := by rw [h8]; rfl
        have g1 : (l.length : Int) ≤ (t.size : Int) := by have := HE.out.2.1; omega
        clear h8 hlt hk
        go_wp2_with fail
        refine (pfirst_calls _ HT5.out).mono ?_
        rintro e w6 ⟨rfl, hb6⟩
        have HB6 := hid (below_trans HB5.out hb6)
        clear hb6
        go_wp2_with fail
        go_ret
        exact ⟨rfl, HB6.out⟩
      · have e8 : (set == 8) = false := beq_eq_false_iff_ne.2 h8
        have f8 : (set != 8) = true := by rw [bne_iff_ne]; exact h8
        have HU := hid (HE.out.2.2.2 h8)
        have HTS : Hid (t.size ≤ 100000) := by have := HE.out.1; show t.size ≤ _; omega
        clear h8 hlt hk
        go_wp2_with fail
        refine (decode_calls t _ HTS.out).mono ?_
        rintro e w6 ⟨⟨vu, rfl, hu⟩, hb6⟩
        have HB6 := hid (below_trans HB5.out hb6)
        have HT6 := hid (HT5.out.below hb6)
        have HV6 := hid (HV5.out.below hb6)
        have HU6 := hid hu
        clear hb6 hu HB5 HT5 HV5
        go_wp2_with fail
        go_loop [9] (fun vi => ∃ k : Nat, k ≤ l.length ∧ vi = .int .i64 (k : Int) ∧ ∀ c ∈ l.take k, c ≠ 37) (fun vi => l.length - (intOf vi).toNat)
        case atStart => exact ⟨0, Nat.zero_le _, rfl, fun c hc => by simp at hc⟩
        case round =>
          obtain ⟨m, hm, rfl, hall⟩ := hrel
          have HA := hid hall
          have m0 : (0 : Int) ≤ (m : Int) := by omega
          clear hall
          by_cases hml : m < l.length
          · obtain ⟨a', cap', he, q1, q2, q3⟩ := HV6.out
            injection he with e1 e2 e3
            subst e1 e3
            obtain ⟨b, off, rfl, hlt, hc⟩ := q3 (by intro h; simp [h] at hml)
            have hck := hc m hml
            have m1 : (m : Int) < (l.length : Int) := by omega
            have HM := hid hml
            have HSt : Hid (l[m] ≠ 37 → ∀ c ∈ l.take (m + 1), c ≠ 37) := by
              intro hne c hc
              rw [List.take_succ_eq_append_getElem hml] at hc
              rcases List.mem_append.1 hc with h | h
              · exact HA.out c h
              · rw [List.mem_singleton.1 h]; exact hne
            clear hc q3 e2 hm
            generalize l[m] = c at *
            have hcl := byte_lt c
            by_cases hc37 : c = 37
            · subst hc37
              clear HSt
              go_wp2_with fail
              refine (pfirst_calls _ HT6.out).mono ?_
              rintro e w7 ⟨rfl, hb7⟩
              have HB7 := hid (below_trans HB6.out hb7)
              clear hb7
              go_wp2_with fail
              go_ret
              exact ⟨rfl, HB7.out⟩
            · have HX := hid (HSt.out hc37)
              have c37 : ((c.toNat : Int) == 37) = false := by
                rw [beq_eq_false_iff_ne]
                intro e
                exact hc37 (UInt8.toNat_inj.1 (by show c.toNat = 37; omega))
              clear HSt hc37
              go_wp2_with fail
              go_round
              case rel => exact ⟨m + 1, HM.out, by go_num, HX.out⟩
              case measure => have := HM.out; simp [intOf]; omega
          · have m1 : ¬ (m : Int) < (l.length : Int) := by omega
            have HX := hid (HU.out (by have := HA.out; rwa [List.take_of_length_le (by omega)] at this))
            clear hml hm
            go_wp2_with fail
            refine (pfirst_calls _ HT6.out).mono ?_
            rintro e w7 ⟨rfl, hb7⟩
            have HB7 := hid (below_trans HB6.out hb7)
            have HU7 := hid (HU6.out.below hb7)
            have HV7 := hid (HV6.out.below hb7)
            rw [HX.out] at HU7
            clear hb7
            go_wp2_with fail
            refine (bytes_calls _ _ _ _ _ HU7.out HV7.out).mono ?_
            rintro e w8 ⟨rfl, rfl⟩
            rw [beq_self_eq_true]
            go_wp2_with fail
            go_ret
            exact ⟨rfl, HB7.out⟩
set_option maxHeartbeats 1000000 in
theorem pctBack_walk (v : Value) (l : List UInt8) (set : Int) (w : World) (ht : Tab w) (hv : BRow w v l) (hset : -9223372036854775808 ≤ set ∧ set ≤ 9223372036854775807) :
    Calls Tryd.prog 5 #[v, .int .i64 set] w fun e w' => e = .returned (.bool true) ∧ Below w.heap.size w w' := by
  by_cases hl : l.length ≤ 8000
  · exact pctBack_in v l set w ht hv hl
  · have HT := hid ht
    obtain ⟨a, cap, rfl, h1, h2, h3⟩ := hv
    unfold maxLen at h2
    have l1 : (8000 : Int) < (l.length : Int) := by omega
    clear ht hset h3 hl
    go_enter Tryd.func5, Tryd.ntmps5
    go_wp2_with fail
    refine (pfirst_calls _ HT.out).mono ?_
    rintro e w1 ⟨rfl, hb1⟩
    have HB1 := hid hb1
    have HT1 := hid (HT.out.below hb1)
    clear hb1
    go_wp2_with fail
    refine (pfirst_calls _ HT1.out).mono ?_
    rintro e w2 ⟨rfl, hb2⟩
    have HB2 := hid (below_trans HB1.out hb2)
    clear hb2
    go_wp2_with fail
    go_ret
    exact ⟨rfl, HB2.out⟩
end Go.Proofs.YtfglanhbjmlclaaDoor
