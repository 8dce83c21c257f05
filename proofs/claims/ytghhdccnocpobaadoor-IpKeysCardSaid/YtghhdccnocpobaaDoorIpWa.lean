/- The program's digit, number, allBelow: digits of a base, a number that stays at 4294967296. -/
import Derived.Test.YtghhdccnocpobaaDoorIpF
namespace Go.Proofs.YtghhdccnocpobaaDoor
open Go.RowKit
set_option linter.unusedVariables false
set_option maxRecDepth 20000
def dP (z : Nat) : Nat := match hexV z with
  | some d => d
  | none => 4294967296
theorem dP_some {z d : Nat} (h : hexV z = some d) : dP z = d := by unfold dP; rw [h]
theorem dP_none {z : Nat} (h : hexV z = none) : dP z = 4294967296 := by unfold dP; rw [h]
theorem pdigit_calls (n : Nat) (hn : n < 256) (w : World) : Calls Tryd.prog 52 #[.int .u8 (n : Int)] w fun e w' => e = .returned (.int .u64 (dP n : Int)) ∧ w' = w := by
  have HR : Hid ((dP n : Int) = if 48 ≤ n ∧ n ≤ 57 then (n : Int) - 48 else if 97 ≤ n ∧ n ≤ 102 then (n : Int) - 87 else if 65 ≤ n ∧ n ≤ 70 then (n : Int) - 55 else 4294967296) := by
    show (dP n : Int) = _
    unfold dP hexV
    by_cases h1 : 48 ≤ n ∧ n ≤ 57
    · rw [if_pos h1, if_pos h1]; simp only []; omega
    · rw [if_neg h1, if_neg h1]
      by_cases h2 : 97 ≤ n ∧ n ≤ 102
      · rw [if_pos h2, if_pos h2]; simp only []; omega
      · rw [if_neg h2, if_neg h2]
        by_cases h3 : 65 ≤ n ∧ n ≤ 70
        · rw [if_pos h3, if_pos h3]; simp only []; omega
        · rw [if_neg h3, if_neg h3]; rfl
  have hc : n < 48 ∨ (48 ≤ n ∧ n ≤ 57) ∨ (57 < n ∧ n < 65) ∨ (57 < n ∧ 65 ≤ n ∧ n ≤ 70) ∨ (70 < n ∧ n < 97) ∨ (57 < n ∧ 97 ≤ n ∧ n ≤ 102) ∨ 102 < n := by omega
  rcases hc with g | ⟨g1, g2⟩ | ⟨g1, g2⟩ | ⟨g1, g2, g3⟩ | ⟨g1, g2⟩ | ⟨g1, g2, g3⟩ | g
  all_goals
    go_enter Tryd.func52, Tryd.ntmps52
    go_wp2
    go_ret
    refine ⟨?_, rfl⟩
    rw [HR.out]
    repeat (first | rw [if_pos (by omega)] | rw [if_neg (by omega)])
    first | rfl | exact congrArg (fun x => Ending.returned (.int .u64 x)) (by omega)
/-- What digits tell, 4294967296 at most. -/
def satR (b : Nat) (l : List UInt8) : Nat := l.foldl (fun n c => min (n * b + dgv c) 4294967296) 0
theorem satR_snoc (b : Nat) (l : List UInt8) (c : UInt8) : satR b (l ++ [c]) = min (satR b l * b + dgv c) 4294967296 := by unfold satR; rw [List.foldl_append]; rfl
theorem satR_le (b : Nat) (l : List UInt8) : satR b l ≤ 4294967296 := by
  rcases List.eq_nil_or_concat l with h | ⟨l', c, h⟩
  · subst h; exact Nat.zero_le _
  · rw [h, List.concat_eq_append, satR_snoc]; exact Nat.min_le_right _ _
theorem satR_step (b x d : Nat) (hb : 1 ≤ b) : min (min x 4294967296 * b + d) 4294967296 = min (x * b + d) 4294967296 := by
  rcases Nat.le_total x 4294967296 with h | h
  · rw [Nat.min_eq_left h]
  · rw [Nat.min_eq_right h]
    have h1 : 4294967296 ≤ 4294967296 * b := Nat.le_mul_of_pos_right _ hb
    have h2 : 4294967296 * b ≤ x * b := Nat.mul_le_mul_right b h
    rw [Nat.min_eq_right (by omega), Nat.min_eq_right (by omega)]
theorem satR_eq (b : Nat) (hb : 1 ≤ b) : ∀ (n : Nat) (l : List UInt8), l.length = n → satR b l = min (valX b l) 4294967296
  | 0, l, h => by rw [List.eq_nil_of_length_eq_zero h]; rfl
  | n + 1, l, h => by
    rcases List.eq_nil_or_concat l with h' | ⟨l', c, h'⟩
    · rw [h'] at h; simp at h
    · rw [List.concat_eq_append] at h'
      subst h'
      rw [List.length_append] at h
      rw [satR_snoc, valX_snoc, satR_eq b hb n l' (by simpa using h), satR_step b _ _ hb]
theorem satR_val {b : Nat} (hb : 1 ≤ b) (l : List UInt8) : satR b l = min (valR b l) 4294967296 := by
  rw [satR_eq b hb _ l rfl, valR_eq b hb _ l rfl]
  omega
theorem satR_take {s : ByteArray} {b k : Nat} (h : k < s.size) : satR b (s.data.toList.take (k + 1)) = min (satR b (s.data.toList.take k) * b + dgv s[k]) 4294967296 := by
  have hl : k < s.data.toList.length := by rw [bytes_num]; exact h
  rw [List.take_succ_eq_append_getElem hl, satR_snoc]
  rfl
theorem dgv_of {c : UInt8} {d : Nat} (h : hexV c.toNat = some d) : dgv c = d := by unfold dgv; rw [h]; rfl
/-- What number answers: what the digits tell, and whether they are such. -/
def numP (b : Nat) (l : List UInt8) : Nat × Bool := if digsR b l = true then (satR b l, true) else (0, false)
theorem numP_yes {b : Nat} {l : List UInt8} (h : digsR b l = true) : numP b l = (satR b l, true) := if_pos h
theorem numP_no {b : Nat} {l : List UInt8} (h : digsR b l = false) : numP b l = (0, false) := by unfold numP; rw [h]; rfl
def NPost (b : Nat) (l : List UInt8) (w : World) (e : Ending) (w' : World) : Prop := e = .returned (.tuple #[.int .u64 ((numP b l).1 : Int), .bool (numP b l).2]) ∧ w' = w
theorem NPost.yes {b : Nat} {l : List UInt8} {w : World} (h : digsR b l = true) {n : Nat} (hn : satR b l = n) : NPost b l w (.returned (.tuple #[.int .u64 (n : Int), .bool true])) w := by unfold NPost; rw [numP_yes h, hn]; exact ⟨rfl, rfl⟩
theorem NPost.no {b : Nat} {l : List UInt8} {w : World} (h : digsR b l = false) : NPost b l w (.returned (.tuple #[.int .u64 0, .bool false])) w := by unfold NPost; rw [numP_no h]; exact ⟨rfl, rfl⟩
set_option maxHeartbeats 2000000 in
theorem pnumber_calls (s : ByteArray) (b : Nat) (w : World) (hs : s.size ≤ 100000) (hb1 : 1 ≤ b) (hb16 : b ≤ 16) :
    Calls Tryd.prog 40 #[.string s, .int .u64 (b : Int)] w fun e w' => NPost b s.data.toList w e w' := by
  have s1 : (s.size : Int) ≤ 100000 := by omega
  have b1 : (1 : Int) ≤ (b : Int) := by omega
  have b2 : (b : Int) ≤ 16 := by omega
  have b3 : (0 : Int) ≤ (b : Int) := by omega
  clear hs
  go_enter Tryd.func40, Tryd.ntmps40
  go_wp2_with fail
  go_loop [6, 11] (fun vn vi => ∃ k : Nat, k ≤ s.size ∧ vi = .int .i64 (k : Int) ∧ vn = .int .u64 (satR b (s.data.toList.take k) : Nat) ∧ digsR b (s.data.toList.take k) = true) (fun _ vi => s.size - (intOf vi).toNat)
  case atStart => exact ⟨0, Nat.zero_le _, rfl, rfl, rfl⟩
  case round =>
    obtain ⟨k, hk, rfl, rfl, hall⟩ := hrel
    have HA := hid hall
    have k0 : (0 : Int) ≤ (k : Int) := by omega
    have hq := satR_le b (s.data.toList.take k)
    clear hall
    by_cases hlt : k < s.size
    · have k1 : (k : Int) < (s.size : Int) := by omega
      have HH := hid (fun h => digs_hit (b := b) hlt HA.out h)
      have HM := hid (fun h => digs_miss (b := b) hlt h)
      have HV := hid (satR_take (b := b) hlt)
      obtain ⟨z, hz⟩ : ∃ z, (s[k]'hlt).toNat = z := ⟨_, rfl⟩
      have z9 : z < 256 := by rw [← hz]; exact byte_lt _
      have HD0 : Hid (hexV z = none → digB b (s[k]'hlt) = false) := fun h => digB_none (by rw [hz]; exact h)
      have HD : Hid (∀ d, hexV z = some d → digB b (s[k]'hlt) = decide (d < b)) := fun d h => digB_some (by rw [hz]; exact h)
      have HDV : Hid (∀ d, hexV z = some d → dgv (s[k]'hlt) = d) := fun d h => dgv_of (by rw [hz]; exact h)
      have HC := hid (pdigit_calls z z9)
      have HK := hid hlt
      generalize satR b (s.data.toList.take k) = n at *
      have n0 : (0 : Int) ≤ (n : Int) := by omega
      have n1 : (n : Int) ≤ 4294967296 := by omega
      clear z9 hk hq
      cases hv : hexV z with
      | none =>
        rw [dP_none hv] at HC
        have HF := hid (HM.out (HD0.out hv))
        have g : (b : Int) ≤ 4294967296 := by omega
        clear HH HM HD HD0 HDV HV hv
        go_wp2_with fail
        refine (HC.out _).mono ?_
        rintro e wz ⟨rfl, rfl⟩
        go_wp2_with fail
        go_ret2
        exact NPost.no HF.out
      | some d =>
        rw [dP_some hv] at HC
        have HE := hid (HDV.out d hv)
        have d0 : (0 : Int) ≤ (d : Int) := by omega
        by_cases hdb : d < b
        · have HX := hid (HH.out (by rw [HD.out d hv]; simpa using hdb))
          have d1 : ¬ (b : Int) ≤ (d : Int) := by omega
          have m1 : n * b ≤ 4294967296 * 16 := Nat.mul_le_mul (by omega) (by omega)
          obtain ⟨x, hx⟩ : ∃ x, n * b = x := ⟨_, rfl⟩
          have hxi : (n : Int) * (b : Int) = (x : Int) := by rw [← hx]; simp
          have x0 : (0 : Int) ≤ (x : Int) := by omega
          have x1 : (x : Int) ≤ 68719476736 := by omega
          have x2 : (d : Int) < 16 := by omega
          have HN : Hid (satR b (s.data.toList.take (k + 1)) = min (x + d) 4294967296) := by show _ = _; rw [HV.out, HE.out, hx]
          clear HH HM HD HD0 HDV HV hv hdb m1 hx HE
          by_cases hsm : x + d ≤ 4294967296
          · have g1 : (x : Int) + (d : Int) ≤ 4294967296 := by omega
            have HN' : Hid (satR b (s.data.toList.take (k + 1)) = x + d) := by show _ = _; rw [HN.out]; omega
            clear HN hsm
            go_wp2_with fail
            refine (HC.out _).mono ?_
            rintro e wz ⟨rfl, rfl⟩
            go_wp2_with fail
            go_round
            case rel => exact ⟨k + 1, HK.out, by go_num, by rw [HN'.out]; first | rfl | (simp; try omega), HX.out⟩
            case measure => have := HK.out; simp [intOf]; omega
          · have g1 : ¬ (x : Int) + (d : Int) ≤ 4294967296 := by omega
            have g2 : (4294967296 : Int) < (x : Int) + (d : Int) := by omega
            have HN' : Hid (satR b (s.data.toList.take (k + 1)) = 4294967296) := by show _ = _; rw [HN.out]; omega
            clear HN hsm
            go_wp2_with fail
            refine (HC.out _).mono ?_
            rintro e wz ⟨rfl, rfl⟩
            go_wp2_with fail
            go_round
            case rel => exact ⟨k + 1, HK.out, by go_num, by rw [HN'.out]; first | rfl | (simp; try omega), HX.out⟩
            case measure => have := HK.out; simp [intOf]; omega
        · have HF := hid (HM.out (by rw [HD.out d hv]; simpa using hdb))
          have d1 : (b : Int) ≤ (d : Int) := by omega
          clear HH HM HD HD0 HDV HV hv hdb HE
          go_wp2_with fail
          refine (HC.out _).mono ?_
          rintro e wz ⟨rfl, rfl⟩
          go_wp2_with fail
          go_ret2
          exact NPost.no HF.out
    · have HF := hid (digs_end hlt HA.out)
      have HT : Hid (satR b s.data.toList = satR b (s.data.toList.take k)) := by show _ = _; rw [List.take_of_length_le (by rw [bytes_num]; omega)]
      have g : ¬ (k : Int) < (s.size : Int) := by omega
      clear hlt hk
      generalize satR b (s.data.toList.take k) = n at *
      go_wp2_with fail
      go_ret2
      exact NPost.yes HF.out HT.out
theorem pall_calls (s : ByteArray) (b : Nat) (w : World) (hs : s.size ≤ 100000) (hb1 : 1 ≤ b) (hb16 : b ≤ 16) :
    Calls Tryd.prog 31 #[.string s, .int .u64 (b : Int)] w fun e w' => e = .returned (.bool (digsR b s.data.toList)) ∧ w' = w := by
  have HC := hid (pnumber_calls s b · hs hb1 hb16)
  unfold NPost at HC
  have HE : Hid ((numP b s.data.toList).2 = digsR b s.data.toList) := by
    show _ = _
    cases h : digsR b s.data.toList with
    | true => rw [numP_yes h]
    | false => rw [numP_no h]
  rw [HE.out] at HC
  clear hs hb1 hb16
  go_enter Tryd.func31, Tryd.ntmps31
  go_wp2_with fail
  refine (HC.out _).mono ?_
  rintro e wz ⟨rfl, rfl⟩
  go_wp2_with fail
  go_ret
  exact ⟨rfl, rfl⟩
end Go.Proofs.YtghhdccnocpobaaDoor
