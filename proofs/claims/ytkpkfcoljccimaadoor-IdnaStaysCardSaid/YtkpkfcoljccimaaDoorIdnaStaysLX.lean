/- The walk of the statement 'told again'. -/
import Derived.Test.YtkpkfcoljccimaaDoorIdnaQX
namespace Go.Proofs.YtkpkfcoljccimaaDoor
open Go.RowKit
set_option linter.unusedVariables false
set_option maxRecDepth 20000
theorem joinA_none : ∀ (ps : List (List Int)) (acc : List UInt8) (first : Bool), (joinA acc first ps).2 ≠ 0 → (joinA acc first ps).1 = strOf []
  | [], acc, first, h => by
    unfold joinA finA at h ⊢
    split
    · rfl
    · rename_i hn; rw [if_neg hn] at h; exact absurd rfl h
  | p :: ps, acc, first, h => by
    unfold joinA at h ⊢
    split
    · rename_i hp; rw [if_pos hp] at h; exact joinA_none ps _ false h
    · rfl
theorem ascR_none {l : List Int} (h : (ascR l).2 ≠ 0) : (ascR l).1 = strOf [] := by
  unfold ascR at h ⊢
  split
  · rfl
  · rename_i h1
    rw [if_neg h1] at h
    split
    · rename_i h2
      rw [if_pos h2, goA_pieces] at h
      rw [goA_pieces]
      exact joinA_none _ _ _ h
    · rfl
theorem kind_great : (List.range 26).all (fun n => !(kindOf ((65 + n : Nat) : Int) == 1)) = true := by decide +kernel
theorem not_great {n : Nat} (h : kindOf (n : Int) = 1) (h1 : 65 ≤ n) (h2 : n ≤ 90) : False := by
  have h3 := List.all_eq_true.1 kind_great (n - 65) (List.mem_range.2 (by omega))
  rw [show 65 + (n - 65) = n by omega, h] at h3
  simp at h3
/-- What is known of a name that was told. -/
theorem asc_facts {l : List Int} {s : ByteArray} (h : ascR l = (s, 0)) : s.size ≤ 253 ∧ ascR (byteInts (bytesOf s)) = (s, 0) ∧ (∀ (k : Nat) (hk : k < s.size), s[k].toNat ≤ 127 ∧ (s[k].toNat < 65 ∨ 90 < s[k].toNat)) := by
  obtain ⟨ps, _, _, _, hsz⟩ := asc_inv h
  obtain ⟨hb, ha⟩ := asc_again h
  refine ⟨hsz, ha, fun k hk => ?_⟩
  have hm : s[k] ∈ bytesOf s := by
    have : (bytesOf s)[k]'(by rw [bytesOf_len]; exact hk) = s[k] := rfl
    rw [← this]
    exact List.getElem_mem _
  have h2 := hb _ hm
  refine ⟨by omega, ?_⟩
  rcases Nat.lt_or_ge s[k].toNat 65 with g | g
  · exact .inl g
  · rcases Nat.lt_or_ge 90 s[k].toNat with g2 | g2
    · exact .inr g2
    · exact (not_great h2.2 g g2).elim
set_option maxRecDepth 20000 in
set_option maxHeartbeats 16000000 in
theorem idnaStays_walk (va : Value) (l : List Int) (w : World) (ha : IRow w va l) :
    Calls Tryd.prog 4 #[va] w fun e w' => e = .returned (.bool true) ∧ Below w.heap.size w w' := by
  have HV := hid ha
  obtain ⟨a, cap, rfl, h1, h2, h3⟩ := ha
  unfold maxLen at h2
  have l2 : (l.length : Int) ≤ (cap : Int) := by omega
  have l3 : (cap : Int) ≤ 9223372036854775807 := by omega
  have e0 := strOf_list []
  clear h1 h2 h3
  by_cases hlong : 300 < l.length
  · have g : (300 : Int) < (l.length : Int) := by omega
    clear hlong
    go_enter Tryd.func4, Tryd.ntmps4
    go_wp2_with fail
    refine (ifirst_calls _).mono ?_
    rintro e w1 ⟨rfl, hb1⟩
    have HB1 := hid hb1
    clear hb1
    go_wp2_with fail
    refine (ifirst_calls _).mono ?_
    rintro e w2 ⟨rfl, hb2⟩
    have HB2 := hid (below_trans HB1.out hb2)
    clear hb2
    go_wp2_with fail
    go_ret
    exact ⟨rfl, HB2.out⟩
  · have g : decide ((300 : Int) < (l.length : Int)) = false := decide_eq_false (by omega)
    clear hlong
    have HAs := hid (fun v w' hv => iascii_calls v l w' hv)
    by_cases hn : (ascR l).2 = 0
    · obtain ⟨s, hs⟩ : ∃ s, ascR l = (s, 0) := ⟨(ascR l).1, by rw [← hn]⟩
      obtain ⟨hsz, hag, hby⟩ := asc_facts hs
      rw [hs] at HAs
      have HBy := hid hby
      have HAg := hid (fun v w' hv => iascii_calls v (byteInts (bytesOf s)) w' hv)
      rw [hag] at HAg
      have HUn := hid (fun w' => iunicode_calls s w' (by omega))
      have HUa := hid (uni_again hs)
      have HU2 := hid (fun v w' hv => iascii_calls v (uniR s) w' hv)
      generalize uniR s = U at *
      have s1 : (s.size : Int) ≤ 253 := by omega
      have HSS : Hid (s.size ≤ 100000) := by show _ ≤ _; omega
      clear hn hs hag hby hsz e0
      go_enter Tryd.func4, Tryd.ntmps4
      go_wp2_with fail
      refine (ifirst_calls _).mono ?_
      rintro e w1 ⟨rfl, hb1⟩
      have HB1 := hid hb1
      have HV1 := hid (HV.out.below hb1)
      clear hb1
      go_wp2_with fail
      refine (HAs.out _ _ HV1.out).mono ?_
      rintro e w2 ⟨rfl, hb2⟩
      have HB2 := hid (below_trans HB1.out hb2)
      clear hb2 HV1 HB1
      go_wp2_with fail
      go_loop [5] (fun vi => ∃ k : Nat, k ≤ s.size ∧ vi = .int .i64 (k : Int)) (fun vi => s.size - (intOf vi).toNat)
      case atStart => exact ⟨0, Nat.zero_le _, rfl⟩
      case round =>
        obtain ⟨k, hk, rfl⟩ := hrel
        have k0 : (0 : Int) ≤ (k : Int) := by omega
        by_cases hlt : k < s.size
        · have k1 : (k : Int) < (s.size : Int) := by omega
          have HK := hid hlt
          obtain ⟨y, hy⟩ : ∃ y, s[k].toNat = y := ⟨_, rfl⟩
          have hbb : y ≤ 127 ∧ (y < 65 ∨ 90 < y) := by rw [← hy]; exact HBy.out k hlt
          obtain ⟨hb7, hb8⟩ := hbb
          have y1 : ¬ (127 : Int) < (y : Int) := by omega
          have y0 : (0 : Int) ≤ (y : Int) := by omega
          have y9 : (y : Int) < 256 := by omega
          by_cases hy6 : (y : Int) < 65
          · have y2 : ¬ (65 : Int) ≤ (y : Int) := by omega
            clear hb7 hb8 hk hlt
            go_wp2_with fail
            go_round
            case rel => exact ⟨k + 1, HK.out, by go_num⟩
            case measure => have := HK.out; simp [intOf]; omega
          · have y2 : (65 : Int) ≤ (y : Int) := by omega
            have y3 : ¬ (y : Int) ≤ 90 := by omega
            clear hb7 hb8 hk hlt
            go_wp2_with fail
            go_round
            case rel => exact ⟨k + 1, HK.out, by go_num⟩
            case measure => have := HK.out; simp [intOf]; omega
        · have g1 : ¬ (k : Int) < (s.size : Int) := by omega
          clear hlt hk
          go_wp2_with fail
          refine (isigns_calls s _ HSS.out).mono ?_
          rintro e w3 ⟨⟨v3, rfl, ho3⟩, hb3⟩
          have HB3 := hid (below_trans HB2.out hb3)
          have HV3 := hid ho3.row
          clear hb3 ho3
          go_wp2_with fail
          refine (HAg.out _ _ HV3.out).mono ?_
          rintro e w4 ⟨rfl, hb4⟩
          have HB4 := hid (below_trans HB3.out hb4)
          clear hb4 HV3 HB3
          have g2 : ¬ (253 : Int) < (s.size : Int) := by omega
          go_wp2_with fail
          refine (HUn.out _).mono ?_
          rintro e w5 ⟨⟨v5, rfl, ho5⟩, hb5⟩
          have HB5 := hid (below_trans HB4.out hb5)
          have HV5 := hid ho5.row
          obtain ⟨ua, uc, hE0, hE1, hE2, hE3⟩ := ho5.row
          subst hE0
          unfold maxLen at hE2
          have c1 : (U.length : Int) ≤ (uc : Int) := by omega
          have c2 : (uc : Int) ≤ 9223372036854775807 := by omega
          clear hb5 ho5 HB4 hE1 hE2 hE3
          by_cases hu : U.length ≤ 256
          · have hx := HUa.out hu
            rw [hx] at HU2
            have g3 : ¬ (256 : Int) < (U.length : Int) := by omega
            clear hx hu
            go_wp2_with fail
            refine (HU2.out _ _ HV5.out).mono ?_
            rintro e w6 ⟨rfl, hb6⟩
            have HB6 := hid (below_trans HB5.out hb6)
            clear hb6
            go_wp2_with fail
            refine (ifirst_calls _).mono ?_
            rintro e w7 ⟨rfl, hb7⟩
            have HB7 := hid (below_trans HB6.out hb7)
            clear hb7
            go_wp2_with fail
            go_ret
            exact ⟨rfl, HB7.out⟩
          · have g3 : (256 : Int) < (U.length : Int) := by omega
            generalize ascR U = X at *
            obtain ⟨x, n⟩ := X
            clear hu
            go_wp2_with fail
            refine (HU2.out _ _ HV5.out).mono ?_
            rintro e w6 ⟨rfl, hb6⟩
            have HB6 := hid (below_trans HB5.out hb6)
            clear hb6
            go_wp2_with fail
            refine (ifirst_calls _).mono ?_
            rintro e w7 ⟨rfl, hb7⟩
            have HB7 := hid (below_trans HB6.out hb7)
            clear hb7
            go_wp2_with fail
            go_ret
            exact ⟨rfl, HB7.out⟩
    · have hs := ascR_none hn
      have hx : ascR l = (strOf [], (ascR l).2) := by rw [← hs]
      obtain ⟨n, hne⟩ : ∃ n, n = (ascR l).2 := ⟨_, rfl⟩
      rw [← hne] at hx hn
      rw [hx] at HAs
      have n1 : (n == 0) = false := by rw [beq_eq_false_iff_ne]; exact hn
      have n2 : (n != 0) = true := by rw [bne_iff_ne]; exact hn
      clear hn hs hx hne
      go_enter Tryd.func4, Tryd.ntmps4
      go_wp2_with fail
      refine (ifirst_calls _).mono ?_
      rintro e w1 ⟨rfl, hb1⟩
      have HB1 := hid hb1
      have HV1 := hid (HV.out.below hb1)
      clear hb1
      go_wp2_with fail
      refine (HAs.out _ _ HV1.out).mono ?_
      rintro e w2 ⟨rfl, hb2⟩
      have HB2 := hid (below_trans HB1.out hb2)
      clear hb2 HV1 HB1
      go_wp2_with fail
      refine (ifirst_calls _).mono ?_
      rintro e w3 ⟨rfl, hb3⟩
      have HB3 := hid (below_trans HB2.out hb3)
      clear hb3
      go_wp2_with fail
      go_ret
      exact ⟨rfl, HB3.out⟩
end Go.Proofs.YtkpkfcoljccimaaDoor
