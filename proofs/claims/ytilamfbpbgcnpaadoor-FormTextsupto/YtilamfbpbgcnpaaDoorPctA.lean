/- The document's any1, alnum, In, Digit. -/
import Derived.Test.YtilamfbpbgcnpaaDoorRowW
import Derived.Test.YtilamfbpbgcnpaaDoorPctP
namespace Go.Proofs.YtilamfbpbgcnpaaDoor
open Go.RowKit
set_option linter.unusedVariables false
set_option maxRecDepth 20000
theorem any_snoc (l : List UInt8) (n k : Nat) (h : k < l.length) : (l.take (k + 1)).any (fun x => x.toNat == n) = ((l.take k).any (fun x => x.toNat == n) || (l[k].toNat == n)) := by
  rw [List.take_succ_eq_append_getElem h, List.any_append]
  simp
def anyN (l : List UInt8) (n : Nat) : Bool := l.any fun x => x.toNat == n
theorem bytes_count (s : ByteArray) : s.data.toList.length = s.size := by
  show s.data.toList.length = s.data.size
  rw [Array.length_toList]
theorem any1_hit (s : ByteArray) (n k : Nat) (h : k < s.size) (hy : s[k].toNat = n) : anyN s.data.toList n = true := by
  unfold anyN
  rw [List.any_eq_true]
  exact ⟨s[k], by have := bytes_count s; exact List.getElem_mem (l := s.data.toList) (n := k) (by omega), by rw [hy]; exact beq_self_eq_true _⟩
theorem any1_miss (s : ByteArray) (n k : Nat) (h : k < s.size) (hy : s[k].toNat ≠ n) (ha : anyN (s.data.toList.take k) n = false) : anyN (s.data.toList.take (k + 1)) n = false := by
  have hb := bytes_count s
  unfold anyN at ha ⊢
  rw [any_snoc s.data.toList n k (by omega), ha, Bool.false_or]
  exact beq_eq_false_iff_ne.2 hy
theorem any1_end (s : ByteArray) (n k : Nat) (h : ¬ k < s.size) (ha : anyN (s.data.toList.take k) n = false) : anyN s.data.toList n = false := by
  have hb := bytes_count s
  rw [List.take_of_length_le (by omega)] at ha
  exact ha
set_option maxHeartbeats 1000000 in
theorem any1_calls (s : ByteArray) (n : Nat) (w : World) (hs : s.size ≤ 1000) :
    Calls Tryd.prog 58 #[.string s, .int .u8 (n : Int)] w fun e w' => e = .returned (.bool (anyN s.data.toList n)) ∧ w' = w := by
  have s1 : (s.size : Int) ≤ 1000 := by omega
  obtain ⟨R, hR⟩ : ∃ R, R = anyN s.data.toList n := ⟨_, rfl⟩
  rw [← hR]
  have HR := hid hR
  clear hR hs
  go_enter Tryd.func58, Tryd.ntmps58
  go_wp2_with fail
  go_loop [5] (fun vi => ∃ k : Nat, k ≤ s.size ∧ vi = .int .i64 (k : Int) ∧ anyN (s.data.toList.take k) n = false) (fun vi => s.size - (intOf vi).toNat)
  case atStart => exact ⟨0, Nat.zero_le _, rfl, by rw [List.take_zero]; rfl⟩
  case round =>
    obtain ⟨k, hk, rfl, hall⟩ := hrel
    have HA := hid hall
    have k0 : (0 : Int) ≤ (k : Int) := by omega
    clear hall
    by_cases hlt : k < s.size
    · have k1 : (k : Int) < (s.size : Int) := by omega
      have HHit := hid (any1_hit s n k hlt)
      have HMis := hid (fun h => any1_miss s n k hlt h HA.out)
      obtain ⟨y, hy⟩ : ∃ y, s[k].toNat = y := ⟨_, rfl⟩
      have HH2 : Hid (y = n → R = true) := fun e => by rw [HR.out]; exact HHit.out (hy.trans e)
      have HM2 : Hid (y ≠ n → anyN (s.data.toList.take (k + 1)) n = false) := fun e => HMis.out (fun h => e (hy.symm.trans h))
      have y9 : (y : Int) < 256 := by have := byte_lt s[k]; omega
      have y0 : (0 : Int) ≤ (y : Int) := by omega
      have HK := hid hlt
      clear HHit HMis hk
      by_cases hyn : y = n
      · have HF := hid (HH2.out hyn)
        subst hyn
        clear HH2 HM2
        go_wp2_with fail
        go_ret
        exact ⟨by rw [HF.out]; rfl, rfl⟩
      · have HX := hid (HM2.out hyn)
        have q1 : ((y : Int) == (n : Int)) = false := by rw [beq_eq_false_iff_ne]; omega
        clear HH2 HM2 hyn
        go_wp2_with fail
        go_round
        case rel => exact ⟨k + 1, HK.out, by go_num, HX.out⟩
        case measure => have := HK.out; simp [intOf]; omega
    · have HF : Hid (R = false) := by show _ = _; rw [HR.out]; exact any1_end s n k hlt HA.out
      have g : ¬ (k : Int) < (s.size : Int) := by omega
      clear hlt hk
      go_wp2_with fail
      go_ret
      exact ⟨by rw [HF.out]; rfl, rfl⟩
theorem alnum_calls (n : Nat) (hn : n < 256) (w : World) :
    Calls Tryd.prog 59 #[.int .u8 (n : Int)] w fun e w' => e = .returned (.bool (isAlnum n)) ∧ w' = w := by
  have hc : n < 48 ∨ (48 ≤ n ∧ n ≤ 57) ∨ (57 < n ∧ n < 65) ∨ (57 < n ∧ 65 ≤ n ∧ n ≤ 90) ∨ (90 < n ∧ n < 97) ∨ (90 < n ∧ 97 ≤ n ∧ n ≤ 122) ∨ 122 < n := by omega
  obtain ⟨R, hR⟩ : ∃ R, R = isAlnum n := ⟨_, rfl⟩
  rw [← hR]
  have HR : Hid (R = ((decide (48 ≤ n) && decide (n ≤ 57)) || (decide (97 ≤ n) && decide (n ≤ 122)) || (decide (65 ≤ n) && decide (n ≤ 90)))) := hR
  clear hR
  rcases hc with g | ⟨g1, g2⟩ | ⟨g1, g2⟩ | ⟨g1, g2, g3⟩ | ⟨g1, g2⟩ | ⟨g1, g2, g3⟩ | g
  · have HX : Hid (R = false) := by show _ = _; rw [HR.out]; simp; omega
    have n0 : (0 : Int) ≤ (n : Int) := by omega
    go_enter Tryd.func59, Tryd.ntmps59
    go_wp2_with fail
    go_ret
    exact ⟨by rw [HX.out]; first | rfl | (simp; omega), rfl⟩
  · have HX : Hid (R = true) := by show _ = _; rw [HR.out]; simp; omega
    have n0 : (0 : Int) ≤ (n : Int) := by omega
    go_enter Tryd.func59, Tryd.ntmps59
    go_wp2_with fail
    go_ret
    exact ⟨by rw [HX.out]; first | rfl | (simp; omega), rfl⟩
  · have HX : Hid (R = false) := by show _ = _; rw [HR.out]; simp; omega
    have n0 : (0 : Int) ≤ (n : Int) := by omega
    go_enter Tryd.func59, Tryd.ntmps59
    go_wp2_with fail
    go_ret
    exact ⟨by rw [HX.out]; first | rfl | (simp; omega), rfl⟩
  · have HX : Hid (R = true) := by show _ = _; rw [HR.out]; simp; omega
    have n0 : (0 : Int) ≤ (n : Int) := by omega
    go_enter Tryd.func59, Tryd.ntmps59
    go_wp2_with fail
    go_ret
    exact ⟨by rw [HX.out]; first | rfl | (simp; omega), rfl⟩
  · have HX : Hid (R = false) := by show _ = _; rw [HR.out]; simp; omega
    have n0 : (0 : Int) ≤ (n : Int) := by omega
    go_enter Tryd.func59, Tryd.ntmps59
    go_wp2_with fail
    go_ret
    exact ⟨by rw [HX.out]; first | rfl | (simp; omega), rfl⟩
  · have HX : Hid (R = true) := by show _ = _; rw [HR.out]; simp; omega
    have n0 : (0 : Int) ≤ (n : Int) := by omega
    go_enter Tryd.func59, Tryd.ntmps59
    go_wp2_with fail
    go_ret
    exact ⟨by rw [HX.out]; first | rfl | (simp; omega), rfl⟩
  · have HX : Hid (R = false) := by show _ = _; rw [HR.out]; simp; omega
    have n0 : (0 : Int) ≤ (n : Int) := by omega
    go_enter Tryd.func59, Tryd.ntmps59
    go_wp2_with fail
    go_ret
    exact ⟨by rw [HX.out]; first | rfl | (simp; omega), rfl⟩
theorem any_q (n : Nat) (w : World) : Calls Tryd.prog 58 #[.string ⟨#[32, 34, 35, 60, 62]⟩, .int .u8 (n : Int)] w fun e w' => e = .returned (.bool (one1 [32, 34, 35, 60, 62] n)) ∧ w' = w := by
  refine (any1_calls ⟨#[32, 34, 35, 60, 62]⟩ n w (by decide)).mono fun e w' ⟨he, hw⟩ => ⟨?_, hw⟩
  rw [he]
  rfl
theorem any_p (n : Nat) (w : World) : Calls Tryd.prog 58 #[.string ⟨#[63, 94, 96, 123, 125]⟩, .int .u8 (n : Int)] w fun e w' => e = .returned (.bool (one1 [63, 94, 96, 123, 125] n)) ∧ w' = w := by
  refine (any1_calls ⟨#[63, 94, 96, 123, 125]⟩ n w (by decide)).mono fun e w' ⟨he, hw⟩ => ⟨?_, hw⟩
  rw [he]
  rfl
theorem any_u (n : Nat) (w : World) : Calls Tryd.prog 58 #[.string ⟨#[47, 58, 59, 61, 64, 91, 92, 93, 124]⟩, .int .u8 (n : Int)] w fun e w' => e = .returned (.bool (one1 [47, 58, 59, 61, 64, 91, 92, 93, 124] n)) ∧ w' = w := by
  refine (any1_calls ⟨#[47, 58, 59, 61, 64, 91, 92, 93, 124]⟩ n w (by decide)).mono fun e w' ⟨he, hw⟩ => ⟨?_, hw⟩
  rw [he]
  rfl
theorem any_f (n : Nat) (w : World) : Calls Tryd.prog 58 #[.string ⟨#[32, 34, 60, 62, 96]⟩, .int .u8 (n : Int)] w fun e w' => e = .returned (.bool (one1 [32, 34, 60, 62, 96] n)) ∧ w' = w := by
  refine (any1_calls ⟨#[32, 34, 60, 62, 96]⟩ n w (by decide)).mono fun e w' ⟨he, hw⟩ => ⟨?_, hw⟩
  rw [he]
  rfl
theorem any_c (n : Nat) (w : World) : Calls Tryd.prog 58 #[.string ⟨#[36, 37, 38, 43, 44]⟩, .int .u8 (n : Int)] w fun e w' => e = .returned (.bool (one1 [36, 37, 38, 43, 44] n)) ∧ w' = w := by
  refine (any1_calls ⟨#[36, 37, 38, 43, 44]⟩ n w (by decide)).mono fun e w' ⟨he, hw⟩ => ⟨?_, hw⟩
  rw [he]
  rfl
theorem any_o (n : Nat) (w : World) : Calls Tryd.prog 58 #[.string ⟨#[42, 45, 46, 95]⟩, .int .u8 (n : Int)] w fun e w' => e = .returned (.bool (one1 [42, 45, 46, 95] n)) ∧ w' = w := by
  refine (any1_calls ⟨#[42, 45, 46, 95]⟩ n w (by decide)).mono fun e w' ⟨he, hw⟩ => ⟨?_, hw⟩
  rw [he]
  rfl
set_option maxRecDepth 20000 in
set_option maxHeartbeats 16000000 in
theorem rin_calls (set : Int) (n : Nat) (hn : n < 256) (w : World) :
    Calls Tryd.prog 40 #[.int .i64 set, .int .u8 (n : Int)] w fun e w' => e = .returned (.bool (inR set n)) ∧ w' = w := by
  obtain ⟨R, hR⟩ : ∃ R, R = inR set n := ⟨_, rfl⟩
  rw [← hR]
  unfold inR isUser isPath isQuery at hR
  have HQ := hid (any_q n)
  have HP := hid (any_p n)
  have HU := hid (any_u n)
  have HF := hid (any_f n)
  have HC := hid (any_c n)
  have HO := hid (any_o n)
  have HL := hid (alnum_calls n hn)
  have n0 : (0 : Int) ≤ (n : Int) := by omega
  have n9 : (n : Int) < 256 := by omega
  have h39 : (n == 39) = ((n : Int) == 39) := by
    by_cases h : n = 39
    · subst h; rfl
    · rw [beq_eq_false_iff_ne.2 h, beq_eq_false_iff_ne.2 (by omega)]
  rw [h39] at hR
  obtain ⟨b39, hb39⟩ : ∃ b, ((n : Int) == 39) = b := ⟨_, rfl⟩
  rw [hb39] at hR
  generalize one1 [32, 34, 35, 60, 62] n = bq at *
  generalize one1 [63, 94, 96, 123, 125] n = bp at *
  generalize one1 [47, 58, 59, 61, 64, 91, 92, 93, 124] n = bu at *
  generalize one1 [32, 34, 60, 62, 96] n = bf at *
  generalize one1 [36, 37, 38, 43, 44] n = bc at *
  generalize one1 [42, 45, 46, 95] n = bo at *
  generalize isAlnum n = ba at *
  have hl : (isLow n = true ∧ (n : Int) < 32) ∨ (isLow n = true ∧ ¬ (n : Int) < 32 ∧ (126 : Int) < (n : Int)) ∨ (isLow n = false ∧ ¬ (n : Int) < 32 ∧ ¬ (126 : Int) < (n : Int)) := by
    unfold isLow
    simp
    omega
  have HR := hid hR
  clear hR hn h39
  generalize (n : Int) = z at *
  rcases hl with ⟨hlow, g1⟩ | ⟨hlow, g1, g2⟩ | ⟨hlow, g1, g2⟩
  · have hset : set = 1 ∨ set = 2 ∨ set = 3 ∨ set = 4 ∨ set = 5 ∨ set = 6 ∨ set = 7 ∨ set = 8 ∨ (set < 1 ∨ 8 < set) := by omega
    rcases hset with hs | hs | hs | hs | hs | hs | hs | hs | hs
    · subst hs
      have HX : Hid (R = true) := by show _ = _; rw [HR.out]; simp [hlow]
      go_enter Tryd.func40, Tryd.ntmps40
      go_wp2_with fail
      go_ret
      exact ⟨by rw [HX.out]; rfl, rfl⟩
    · subst hs
      have HX : Hid (R = true) := by show _ = _; rw [HR.out]; simp [hlow]
      go_enter Tryd.func40, Tryd.ntmps40
      go_wp2_with fail
      go_ret
      exact ⟨by rw [HX.out]; rfl, rfl⟩
    · subst hs
      have HX : Hid (R = true) := by show _ = _; rw [HR.out]; simp [hlow]
      go_enter Tryd.func40, Tryd.ntmps40
      go_wp2_with fail
      go_ret
      exact ⟨by rw [HX.out]; rfl, rfl⟩
    · subst hs
      have HX : Hid (R = true) := by show _ = _; rw [HR.out]; simp [hlow]
      go_enter Tryd.func40, Tryd.ntmps40
      go_wp2_with fail
      go_ret
      exact ⟨by rw [HX.out]; rfl, rfl⟩
    · subst hs
      have HX : Hid (R = true) := by show _ = _; rw [HR.out]; simp [hlow]
      go_enter Tryd.func40, Tryd.ntmps40
      go_wp2_with fail
      go_ret
      exact ⟨by rw [HX.out]; rfl, rfl⟩
    · subst hs
      have HX : Hid (R = true) := by show _ = _; rw [HR.out]; simp [hlow]
      go_enter Tryd.func40, Tryd.ntmps40
      go_wp2_with fail
      go_ret
      exact ⟨by rw [HX.out]; rfl, rfl⟩
    · subst hs
      have HX : Hid (R = true) := by show _ = _; rw [HR.out]; simp [hlow]
      go_enter Tryd.func40, Tryd.ntmps40
      go_wp2_with fail
      go_ret
      exact ⟨by rw [HX.out]; rfl, rfl⟩
    · subst hs
      cases ba with
      | true =>
        have HX : Hid (R = false) := by show _ = _; rw [HR.out]; simp
        go_enter Tryd.func40, Tryd.ntmps40
        go_wp2_with fail
        refine (HL.out _).mono ?_
        rintro e wz ⟨rfl, rfl⟩
        go_wp2_with fail
        go_ret
        exact ⟨by rw [HX.out]; rfl, rfl⟩
      | false =>
        cases bo with
        | true =>
          have HX : Hid (R = false) := by show _ = _; rw [HR.out]; simp
          go_enter Tryd.func40, Tryd.ntmps40
          go_wp2_with fail
          refine (HL.out _).mono ?_
          rintro e wz ⟨rfl, rfl⟩
          go_wp2_with fail
          refine (HO.out _).mono ?_
          rintro e wz ⟨rfl, rfl⟩
          go_wp2_with fail
          go_ret
          exact ⟨by rw [HX.out]; rfl, rfl⟩
        | false =>
          have HX : Hid (R = true) := by show _ = _; rw [HR.out]; simp
          go_enter Tryd.func40, Tryd.ntmps40
          go_wp2_with fail
          refine (HL.out _).mono ?_
          rintro e wz ⟨rfl, rfl⟩
          go_wp2_with fail
          refine (HO.out _).mono ?_
          rintro e wz ⟨rfl, rfl⟩
          go_wp2_with fail
          go_ret
          exact ⟨by rw [HX.out]; rfl, rfl⟩
    · have s1 : (set == 1) = false := by rw [beq_eq_false_iff_ne]; omega
      have s2 : (set == 2) = false := by rw [beq_eq_false_iff_ne]; omega
      have s3 : (set == 3) = false := by rw [beq_eq_false_iff_ne]; omega
      have s4 : (set == 4) = false := by rw [beq_eq_false_iff_ne]; omega
      have s5 : (set == 5) = false := by rw [beq_eq_false_iff_ne]; omega
      have s6 : (set == 6) = false := by rw [beq_eq_false_iff_ne]; omega
      have s7 : (set == 7) = false := by rw [beq_eq_false_iff_ne]; omega
      have s8 : (set == 8) = false := by rw [beq_eq_false_iff_ne]; omega
      have HX : Hid (R = false) := by show _ = _; rw [HR.out]; rw [if_neg (by omega), if_neg (by omega), if_neg (by omega), if_neg (by omega), if_neg (by omega), if_neg (by omega), if_neg (by omega), if_neg (by omega)]
      clear hs
      go_enter Tryd.func40, Tryd.ntmps40
      go_wp2_with fail
      go_ret
      exact ⟨by rw [HX.out]; rfl, rfl⟩
  · have hset : set = 1 ∨ set = 2 ∨ set = 3 ∨ set = 4 ∨ set = 5 ∨ set = 6 ∨ set = 7 ∨ set = 8 ∨ (set < 1 ∨ 8 < set) := by omega
    rcases hset with hs | hs | hs | hs | hs | hs | hs | hs | hs
    · subst hs
      have HX : Hid (R = true) := by show _ = _; rw [HR.out]; simp [hlow]
      go_enter Tryd.func40, Tryd.ntmps40
      go_wp2_with fail
      go_ret
      exact ⟨by rw [HX.out]; rfl, rfl⟩
    · subst hs
      have HX : Hid (R = true) := by show _ = _; rw [HR.out]; simp [hlow]
      go_enter Tryd.func40, Tryd.ntmps40
      go_wp2_with fail
      go_ret
      exact ⟨by rw [HX.out]; rfl, rfl⟩
    · subst hs
      have HX : Hid (R = true) := by show _ = _; rw [HR.out]; simp [hlow]
      go_enter Tryd.func40, Tryd.ntmps40
      go_wp2_with fail
      go_ret
      exact ⟨by rw [HX.out]; rfl, rfl⟩
    · subst hs
      have HX : Hid (R = true) := by show _ = _; rw [HR.out]; simp [hlow]
      go_enter Tryd.func40, Tryd.ntmps40
      go_wp2_with fail
      go_ret
      exact ⟨by rw [HX.out]; rfl, rfl⟩
    · subst hs
      have HX : Hid (R = true) := by show _ = _; rw [HR.out]; simp [hlow]
      go_enter Tryd.func40, Tryd.ntmps40
      go_wp2_with fail
      go_ret
      exact ⟨by rw [HX.out]; rfl, rfl⟩
    · subst hs
      have HX : Hid (R = true) := by show _ = _; rw [HR.out]; simp [hlow]
      go_enter Tryd.func40, Tryd.ntmps40
      go_wp2_with fail
      go_ret
      exact ⟨by rw [HX.out]; rfl, rfl⟩
    · subst hs
      have HX : Hid (R = true) := by show _ = _; rw [HR.out]; simp [hlow]
      go_enter Tryd.func40, Tryd.ntmps40
      go_wp2_with fail
      go_ret
      exact ⟨by rw [HX.out]; rfl, rfl⟩
    · subst hs
      cases ba with
      | true =>
        have HX : Hid (R = false) := by show _ = _; rw [HR.out]; simp
        go_enter Tryd.func40, Tryd.ntmps40
        go_wp2_with fail
        refine (HL.out _).mono ?_
        rintro e wz ⟨rfl, rfl⟩
        go_wp2_with fail
        go_ret
        exact ⟨by rw [HX.out]; rfl, rfl⟩
      | false =>
        cases bo with
        | true =>
          have HX : Hid (R = false) := by show _ = _; rw [HR.out]; simp
          go_enter Tryd.func40, Tryd.ntmps40
          go_wp2_with fail
          refine (HL.out _).mono ?_
          rintro e wz ⟨rfl, rfl⟩
          go_wp2_with fail
          refine (HO.out _).mono ?_
          rintro e wz ⟨rfl, rfl⟩
          go_wp2_with fail
          go_ret
          exact ⟨by rw [HX.out]; rfl, rfl⟩
        | false =>
          have HX : Hid (R = true) := by show _ = _; rw [HR.out]; simp
          go_enter Tryd.func40, Tryd.ntmps40
          go_wp2_with fail
          refine (HL.out _).mono ?_
          rintro e wz ⟨rfl, rfl⟩
          go_wp2_with fail
          refine (HO.out _).mono ?_
          rintro e wz ⟨rfl, rfl⟩
          go_wp2_with fail
          go_ret
          exact ⟨by rw [HX.out]; rfl, rfl⟩
    · have s1 : (set == 1) = false := by rw [beq_eq_false_iff_ne]; omega
      have s2 : (set == 2) = false := by rw [beq_eq_false_iff_ne]; omega
      have s3 : (set == 3) = false := by rw [beq_eq_false_iff_ne]; omega
      have s4 : (set == 4) = false := by rw [beq_eq_false_iff_ne]; omega
      have s5 : (set == 5) = false := by rw [beq_eq_false_iff_ne]; omega
      have s6 : (set == 6) = false := by rw [beq_eq_false_iff_ne]; omega
      have s7 : (set == 7) = false := by rw [beq_eq_false_iff_ne]; omega
      have s8 : (set == 8) = false := by rw [beq_eq_false_iff_ne]; omega
      have HX : Hid (R = false) := by show _ = _; rw [HR.out]; rw [if_neg (by omega), if_neg (by omega), if_neg (by omega), if_neg (by omega), if_neg (by omega), if_neg (by omega), if_neg (by omega), if_neg (by omega)]
      clear hs
      go_enter Tryd.func40, Tryd.ntmps40
      go_wp2_with fail
      go_ret
      exact ⟨by rw [HX.out]; rfl, rfl⟩
  · cases bq with
    | true =>
      have hset : set = 1 ∨ set = 2 ∨ set = 3 ∨ set = 4 ∨ set = 5 ∨ set = 6 ∨ set = 7 ∨ set = 8 ∨ (set < 1 ∨ 8 < set) := by omega
      rcases hset with hs | hs | hs | hs | hs | hs | hs | hs | hs
      · subst hs
        have HX : Hid (R = false) := by show _ = _; rw [HR.out]; simp [hlow]
        go_enter Tryd.func40, Tryd.ntmps40
        go_wp2_with fail
        refine (HQ.out _).mono ?_
        rintro e wz ⟨rfl, rfl⟩
        go_wp2_with fail
        go_ret
        exact ⟨by rw [HX.out]; rfl, rfl⟩
      · subst hs
        cases bf with
        | true =>
          have HX : Hid (R = true) := by show _ = _; rw [HR.out]; simp [hlow]
          go_enter Tryd.func40, Tryd.ntmps40
          go_wp2_with fail
          refine (HQ.out _).mono ?_
          rintro e wz ⟨rfl, rfl⟩
          go_wp2_with fail
          refine (HF.out _).mono ?_
          rintro e wz ⟨rfl, rfl⟩
          go_wp2_with fail
          go_ret
          exact ⟨by rw [HX.out]; rfl, rfl⟩
        | false =>
          have HX : Hid (R = false) := by show _ = _; rw [HR.out]; simp [hlow]
          go_enter Tryd.func40, Tryd.ntmps40
          go_wp2_with fail
          refine (HQ.out _).mono ?_
          rintro e wz ⟨rfl, rfl⟩
          go_wp2_with fail
          refine (HF.out _).mono ?_
          rintro e wz ⟨rfl, rfl⟩
          go_wp2_with fail
          go_ret
          exact ⟨by rw [HX.out]; rfl, rfl⟩
      · subst hs
        have HX : Hid (R = true) := by show _ = _; rw [HR.out]; simp [hlow]
        go_enter Tryd.func40, Tryd.ntmps40
        go_wp2_with fail
        refine (HQ.out _).mono ?_
        rintro e wz ⟨rfl, rfl⟩
        go_wp2_with fail
        go_ret
        exact ⟨by rw [HX.out]; rfl, rfl⟩
      · subst hs
        have HX : Hid (R = true) := by show _ = _; rw [HR.out]; simp [hlow]
        go_enter Tryd.func40, Tryd.ntmps40
        go_wp2_with fail
        refine (HQ.out _).mono ?_
        rintro e wz ⟨rfl, rfl⟩
        go_wp2_with fail
        go_ret
        exact ⟨by rw [HX.out]; rfl, rfl⟩
      · subst hs
        have HX : Hid (R = true) := by show _ = _; rw [HR.out]; simp [hlow]
        go_enter Tryd.func40, Tryd.ntmps40
        go_wp2_with fail
        refine (HQ.out _).mono ?_
        rintro e wz ⟨rfl, rfl⟩
        go_wp2_with fail
        go_ret
        exact ⟨by rw [HX.out]; rfl, rfl⟩
      · subst hs
        have HX : Hid (R = true) := by show _ = _; rw [HR.out]; simp [hlow]
        go_enter Tryd.func40, Tryd.ntmps40
        go_wp2_with fail
        refine (HQ.out _).mono ?_
        rintro e wz ⟨rfl, rfl⟩
        go_wp2_with fail
        go_ret
        exact ⟨by rw [HX.out]; rfl, rfl⟩
      · subst hs
        have HX : Hid (R = true) := by show _ = _; rw [HR.out]; simp [hlow]
        go_enter Tryd.func40, Tryd.ntmps40
        go_wp2_with fail
        refine (HQ.out _).mono ?_
        rintro e wz ⟨rfl, rfl⟩
        go_wp2_with fail
        go_ret
        exact ⟨by rw [HX.out]; rfl, rfl⟩
      · subst hs
        cases ba with
        | true =>
          have HX : Hid (R = false) := by show _ = _; rw [HR.out]; simp
          go_enter Tryd.func40, Tryd.ntmps40
          go_wp2_with fail
          refine (HQ.out _).mono ?_
          rintro e wz ⟨rfl, rfl⟩
          go_wp2_with fail
          refine (HL.out _).mono ?_
          rintro e wz ⟨rfl, rfl⟩
          go_wp2_with fail
          go_ret
          exact ⟨by rw [HX.out]; rfl, rfl⟩
        | false =>
          cases bo with
          | true =>
            have HX : Hid (R = false) := by show _ = _; rw [HR.out]; simp
            go_enter Tryd.func40, Tryd.ntmps40
            go_wp2_with fail
            refine (HQ.out _).mono ?_
            rintro e wz ⟨rfl, rfl⟩
            go_wp2_with fail
            refine (HL.out _).mono ?_
            rintro e wz ⟨rfl, rfl⟩
            go_wp2_with fail
            refine (HO.out _).mono ?_
            rintro e wz ⟨rfl, rfl⟩
            go_wp2_with fail
            go_ret
            exact ⟨by rw [HX.out]; rfl, rfl⟩
          | false =>
            have HX : Hid (R = true) := by show _ = _; rw [HR.out]; simp
            go_enter Tryd.func40, Tryd.ntmps40
            go_wp2_with fail
            refine (HQ.out _).mono ?_
            rintro e wz ⟨rfl, rfl⟩
            go_wp2_with fail
            refine (HL.out _).mono ?_
            rintro e wz ⟨rfl, rfl⟩
            go_wp2_with fail
            refine (HO.out _).mono ?_
            rintro e wz ⟨rfl, rfl⟩
            go_wp2_with fail
            go_ret
            exact ⟨by rw [HX.out]; rfl, rfl⟩
      · have s1 : (set == 1) = false := by rw [beq_eq_false_iff_ne]; omega
        have s2 : (set == 2) = false := by rw [beq_eq_false_iff_ne]; omega
        have s3 : (set == 3) = false := by rw [beq_eq_false_iff_ne]; omega
        have s4 : (set == 4) = false := by rw [beq_eq_false_iff_ne]; omega
        have s5 : (set == 5) = false := by rw [beq_eq_false_iff_ne]; omega
        have s6 : (set == 6) = false := by rw [beq_eq_false_iff_ne]; omega
        have s7 : (set == 7) = false := by rw [beq_eq_false_iff_ne]; omega
        have s8 : (set == 8) = false := by rw [beq_eq_false_iff_ne]; omega
        have HX : Hid (R = false) := by show _ = _; rw [HR.out]; rw [if_neg (by omega), if_neg (by omega), if_neg (by omega), if_neg (by omega), if_neg (by omega), if_neg (by omega), if_neg (by omega), if_neg (by omega)]
        clear hs
        go_enter Tryd.func40, Tryd.ntmps40
        go_wp2_with fail
        refine (HQ.out _).mono ?_
        rintro e wz ⟨rfl, rfl⟩
        go_wp2_with fail
        go_ret
        exact ⟨by rw [HX.out]; rfl, rfl⟩
    | false =>
      cases bp with
      | true =>
        have hset : set = 1 ∨ set = 2 ∨ set = 3 ∨ set = 4 ∨ set = 5 ∨ set = 6 ∨ set = 7 ∨ set = 8 ∨ (set < 1 ∨ 8 < set) := by omega
        rcases hset with hs | hs | hs | hs | hs | hs | hs | hs | hs
        · subst hs
          have HX : Hid (R = false) := by show _ = _; rw [HR.out]; simp [hlow]
          go_enter Tryd.func40, Tryd.ntmps40
          go_wp2_with fail
          refine (HQ.out _).mono ?_
          rintro e wz ⟨rfl, rfl⟩
          go_wp2_with fail
          refine (HP.out _).mono ?_
          rintro e wz ⟨rfl, rfl⟩
          go_wp2_with fail
          go_ret
          exact ⟨by rw [HX.out]; rfl, rfl⟩
        · subst hs
          cases bf with
          | true =>
            have HX : Hid (R = true) := by show _ = _; rw [HR.out]; simp [hlow]
            go_enter Tryd.func40, Tryd.ntmps40
            go_wp2_with fail
            refine (HQ.out _).mono ?_
            rintro e wz ⟨rfl, rfl⟩
            go_wp2_with fail
            refine (HP.out _).mono ?_
            rintro e wz ⟨rfl, rfl⟩
            go_wp2_with fail
            refine (HF.out _).mono ?_
            rintro e wz ⟨rfl, rfl⟩
            go_wp2_with fail
            go_ret
            exact ⟨by rw [HX.out]; rfl, rfl⟩
          | false =>
            have HX : Hid (R = false) := by show _ = _; rw [HR.out]; simp [hlow]
            go_enter Tryd.func40, Tryd.ntmps40
            go_wp2_with fail
            refine (HQ.out _).mono ?_
            rintro e wz ⟨rfl, rfl⟩
            go_wp2_with fail
            refine (HP.out _).mono ?_
            rintro e wz ⟨rfl, rfl⟩
            go_wp2_with fail
            refine (HF.out _).mono ?_
            rintro e wz ⟨rfl, rfl⟩
            go_wp2_with fail
            go_ret
            exact ⟨by rw [HX.out]; rfl, rfl⟩
        · subst hs
          have HX : Hid (R = false) := by show _ = _; rw [HR.out]; simp [hlow]
          go_enter Tryd.func40, Tryd.ntmps40
          go_wp2_with fail
          refine (HQ.out _).mono ?_
          rintro e wz ⟨rfl, rfl⟩
          go_wp2_with fail
          refine (HP.out _).mono ?_
          rintro e wz ⟨rfl, rfl⟩
          go_wp2_with fail
          go_ret
          exact ⟨by rw [HX.out]; rfl, rfl⟩
        · subst hs
          have HX : Hid (R = b39) := by show _ = _; rw [HR.out]; simp [hlow]
          go_enter Tryd.func40, Tryd.ntmps40
          go_wp2_with fail
          refine (HQ.out _).mono ?_
          rintro e wz ⟨rfl, rfl⟩
          go_wp2_with fail
          refine (HP.out _).mono ?_
          rintro e wz ⟨rfl, rfl⟩
          go_wp2_with fail
          go_ret
          exact ⟨by rw [HX.out]; rfl, rfl⟩
        · subst hs
          have HX : Hid (R = true) := by show _ = _; rw [HR.out]; simp [hlow]
          go_enter Tryd.func40, Tryd.ntmps40
          go_wp2_with fail
          refine (HQ.out _).mono ?_
          rintro e wz ⟨rfl, rfl⟩
          go_wp2_with fail
          refine (HP.out _).mono ?_
          rintro e wz ⟨rfl, rfl⟩
          go_wp2_with fail
          go_ret
          exact ⟨by rw [HX.out]; rfl, rfl⟩
        · subst hs
          have HX : Hid (R = true) := by show _ = _; rw [HR.out]; simp [hlow]
          go_enter Tryd.func40, Tryd.ntmps40
          go_wp2_with fail
          refine (HQ.out _).mono ?_
          rintro e wz ⟨rfl, rfl⟩
          go_wp2_with fail
          refine (HP.out _).mono ?_
          rintro e wz ⟨rfl, rfl⟩
          go_wp2_with fail
          go_ret
          exact ⟨by rw [HX.out]; rfl, rfl⟩
        · subst hs
          have HX : Hid (R = true) := by show _ = _; rw [HR.out]; simp [hlow]
          go_enter Tryd.func40, Tryd.ntmps40
          go_wp2_with fail
          refine (HQ.out _).mono ?_
          rintro e wz ⟨rfl, rfl⟩
          go_wp2_with fail
          refine (HP.out _).mono ?_
          rintro e wz ⟨rfl, rfl⟩
          go_wp2_with fail
          go_ret
          exact ⟨by rw [HX.out]; rfl, rfl⟩
        · subst hs
          cases ba with
          | true =>
            have HX : Hid (R = false) := by show _ = _; rw [HR.out]; simp
            go_enter Tryd.func40, Tryd.ntmps40
            go_wp2_with fail
            refine (HQ.out _).mono ?_
            rintro e wz ⟨rfl, rfl⟩
            go_wp2_with fail
            refine (HP.out _).mono ?_
            rintro e wz ⟨rfl, rfl⟩
            go_wp2_with fail
            refine (HL.out _).mono ?_
            rintro e wz ⟨rfl, rfl⟩
            go_wp2_with fail
            go_ret
            exact ⟨by rw [HX.out]; rfl, rfl⟩
          | false =>
            cases bo with
            | true =>
              have HX : Hid (R = false) := by show _ = _; rw [HR.out]; simp
              go_enter Tryd.func40, Tryd.ntmps40
              go_wp2_with fail
              refine (HQ.out _).mono ?_
              rintro e wz ⟨rfl, rfl⟩
              go_wp2_with fail
              refine (HP.out _).mono ?_
              rintro e wz ⟨rfl, rfl⟩
              go_wp2_with fail
              refine (HL.out _).mono ?_
              rintro e wz ⟨rfl, rfl⟩
              go_wp2_with fail
              refine (HO.out _).mono ?_
              rintro e wz ⟨rfl, rfl⟩
              go_wp2_with fail
              go_ret
              exact ⟨by rw [HX.out]; rfl, rfl⟩
            | false =>
              have HX : Hid (R = true) := by show _ = _; rw [HR.out]; simp
              go_enter Tryd.func40, Tryd.ntmps40
              go_wp2_with fail
              refine (HQ.out _).mono ?_
              rintro e wz ⟨rfl, rfl⟩
              go_wp2_with fail
              refine (HP.out _).mono ?_
              rintro e wz ⟨rfl, rfl⟩
              go_wp2_with fail
              refine (HL.out _).mono ?_
              rintro e wz ⟨rfl, rfl⟩
              go_wp2_with fail
              refine (HO.out _).mono ?_
              rintro e wz ⟨rfl, rfl⟩
              go_wp2_with fail
              go_ret
              exact ⟨by rw [HX.out]; rfl, rfl⟩
        · have s1 : (set == 1) = false := by rw [beq_eq_false_iff_ne]; omega
          have s2 : (set == 2) = false := by rw [beq_eq_false_iff_ne]; omega
          have s3 : (set == 3) = false := by rw [beq_eq_false_iff_ne]; omega
          have s4 : (set == 4) = false := by rw [beq_eq_false_iff_ne]; omega
          have s5 : (set == 5) = false := by rw [beq_eq_false_iff_ne]; omega
          have s6 : (set == 6) = false := by rw [beq_eq_false_iff_ne]; omega
          have s7 : (set == 7) = false := by rw [beq_eq_false_iff_ne]; omega
          have s8 : (set == 8) = false := by rw [beq_eq_false_iff_ne]; omega
          have HX : Hid (R = false) := by show _ = _; rw [HR.out]; rw [if_neg (by omega), if_neg (by omega), if_neg (by omega), if_neg (by omega), if_neg (by omega), if_neg (by omega), if_neg (by omega), if_neg (by omega)]
          clear hs
          go_enter Tryd.func40, Tryd.ntmps40
          go_wp2_with fail
          refine (HQ.out _).mono ?_
          rintro e wz ⟨rfl, rfl⟩
          go_wp2_with fail
          refine (HP.out _).mono ?_
          rintro e wz ⟨rfl, rfl⟩
          go_wp2_with fail
          go_ret
          exact ⟨by rw [HX.out]; rfl, rfl⟩
      | false =>
        cases bu with
        | true =>
          have hset : set = 1 ∨ set = 2 ∨ set = 3 ∨ set = 4 ∨ set = 5 ∨ set = 6 ∨ set = 7 ∨ set = 8 ∨ (set < 1 ∨ 8 < set) := by omega
          rcases hset with hs | hs | hs | hs | hs | hs | hs | hs | hs
          · subst hs
            have HX : Hid (R = false) := by show _ = _; rw [HR.out]; simp [hlow]
            go_enter Tryd.func40, Tryd.ntmps40
            go_wp2_with fail
            refine (HQ.out _).mono ?_
            rintro e wz ⟨rfl, rfl⟩
            go_wp2_with fail
            refine (HP.out _).mono ?_
            rintro e wz ⟨rfl, rfl⟩
            go_wp2_with fail
            refine (HU.out _).mono ?_
            rintro e wz ⟨rfl, rfl⟩
            go_wp2_with fail
            go_ret
            exact ⟨by rw [HX.out]; rfl, rfl⟩
          · subst hs
            cases bf with
            | true =>
              have HX : Hid (R = true) := by show _ = _; rw [HR.out]; simp [hlow]
              go_enter Tryd.func40, Tryd.ntmps40
              go_wp2_with fail
              refine (HQ.out _).mono ?_
              rintro e wz ⟨rfl, rfl⟩
              go_wp2_with fail
              refine (HP.out _).mono ?_
              rintro e wz ⟨rfl, rfl⟩
              go_wp2_with fail
              refine (HU.out _).mono ?_
              rintro e wz ⟨rfl, rfl⟩
              go_wp2_with fail
              refine (HF.out _).mono ?_
              rintro e wz ⟨rfl, rfl⟩
              go_wp2_with fail
              go_ret
              exact ⟨by rw [HX.out]; rfl, rfl⟩
            | false =>
              have HX : Hid (R = false) := by show _ = _; rw [HR.out]; simp [hlow]
              go_enter Tryd.func40, Tryd.ntmps40
              go_wp2_with fail
              refine (HQ.out _).mono ?_
              rintro e wz ⟨rfl, rfl⟩
              go_wp2_with fail
              refine (HP.out _).mono ?_
              rintro e wz ⟨rfl, rfl⟩
              go_wp2_with fail
              refine (HU.out _).mono ?_
              rintro e wz ⟨rfl, rfl⟩
              go_wp2_with fail
              refine (HF.out _).mono ?_
              rintro e wz ⟨rfl, rfl⟩
              go_wp2_with fail
              go_ret
              exact ⟨by rw [HX.out]; rfl, rfl⟩
          · subst hs
            have HX : Hid (R = false) := by show _ = _; rw [HR.out]; simp [hlow]
            go_enter Tryd.func40, Tryd.ntmps40
            go_wp2_with fail
            refine (HQ.out _).mono ?_
            rintro e wz ⟨rfl, rfl⟩
            go_wp2_with fail
            refine (HP.out _).mono ?_
            rintro e wz ⟨rfl, rfl⟩
            go_wp2_with fail
            refine (HU.out _).mono ?_
            rintro e wz ⟨rfl, rfl⟩
            go_wp2_with fail
            go_ret
            exact ⟨by rw [HX.out]; rfl, rfl⟩
          · subst hs
            have HX : Hid (R = b39) := by show _ = _; rw [HR.out]; simp [hlow]
            go_enter Tryd.func40, Tryd.ntmps40
            go_wp2_with fail
            refine (HQ.out _).mono ?_
            rintro e wz ⟨rfl, rfl⟩
            go_wp2_with fail
            refine (HP.out _).mono ?_
            rintro e wz ⟨rfl, rfl⟩
            go_wp2_with fail
            refine (HU.out _).mono ?_
            rintro e wz ⟨rfl, rfl⟩
            go_wp2_with fail
            go_ret
            exact ⟨by rw [HX.out]; rfl, rfl⟩
          · subst hs
            have HX : Hid (R = false) := by show _ = _; rw [HR.out]; simp [hlow]
            go_enter Tryd.func40, Tryd.ntmps40
            go_wp2_with fail
            refine (HQ.out _).mono ?_
            rintro e wz ⟨rfl, rfl⟩
            go_wp2_with fail
            refine (HP.out _).mono ?_
            rintro e wz ⟨rfl, rfl⟩
            go_wp2_with fail
            refine (HU.out _).mono ?_
            rintro e wz ⟨rfl, rfl⟩
            go_wp2_with fail
            go_ret
            exact ⟨by rw [HX.out]; rfl, rfl⟩
          · subst hs
            have HX : Hid (R = true) := by show _ = _; rw [HR.out]; simp [hlow]
            go_enter Tryd.func40, Tryd.ntmps40
            go_wp2_with fail
            refine (HQ.out _).mono ?_
            rintro e wz ⟨rfl, rfl⟩
            go_wp2_with fail
            refine (HP.out _).mono ?_
            rintro e wz ⟨rfl, rfl⟩
            go_wp2_with fail
            refine (HU.out _).mono ?_
            rintro e wz ⟨rfl, rfl⟩
            go_wp2_with fail
            go_ret
            exact ⟨by rw [HX.out]; rfl, rfl⟩
          · subst hs
            have HX : Hid (R = true) := by show _ = _; rw [HR.out]; simp [hlow]
            go_enter Tryd.func40, Tryd.ntmps40
            go_wp2_with fail
            refine (HQ.out _).mono ?_
            rintro e wz ⟨rfl, rfl⟩
            go_wp2_with fail
            refine (HP.out _).mono ?_
            rintro e wz ⟨rfl, rfl⟩
            go_wp2_with fail
            refine (HU.out _).mono ?_
            rintro e wz ⟨rfl, rfl⟩
            go_wp2_with fail
            go_ret
            exact ⟨by rw [HX.out]; rfl, rfl⟩
          · subst hs
            cases ba with
            | true =>
              have HX : Hid (R = false) := by show _ = _; rw [HR.out]; simp
              go_enter Tryd.func40, Tryd.ntmps40
              go_wp2_with fail
              refine (HQ.out _).mono ?_
              rintro e wz ⟨rfl, rfl⟩
              go_wp2_with fail
              refine (HP.out _).mono ?_
              rintro e wz ⟨rfl, rfl⟩
              go_wp2_with fail
              refine (HU.out _).mono ?_
              rintro e wz ⟨rfl, rfl⟩
              go_wp2_with fail
              refine (HL.out _).mono ?_
              rintro e wz ⟨rfl, rfl⟩
              go_wp2_with fail
              go_ret
              exact ⟨by rw [HX.out]; rfl, rfl⟩
            | false =>
              cases bo with
              | true =>
                have HX : Hid (R = false) := by show _ = _; rw [HR.out]; simp
                go_enter Tryd.func40, Tryd.ntmps40
                go_wp2_with fail
                refine (HQ.out _).mono ?_
                rintro e wz ⟨rfl, rfl⟩
                go_wp2_with fail
                refine (HP.out _).mono ?_
                rintro e wz ⟨rfl, rfl⟩
                go_wp2_with fail
                refine (HU.out _).mono ?_
                rintro e wz ⟨rfl, rfl⟩
                go_wp2_with fail
                refine (HL.out _).mono ?_
                rintro e wz ⟨rfl, rfl⟩
                go_wp2_with fail
                refine (HO.out _).mono ?_
                rintro e wz ⟨rfl, rfl⟩
                go_wp2_with fail
                go_ret
                exact ⟨by rw [HX.out]; rfl, rfl⟩
              | false =>
                have HX : Hid (R = true) := by show _ = _; rw [HR.out]; simp
                go_enter Tryd.func40, Tryd.ntmps40
                go_wp2_with fail
                refine (HQ.out _).mono ?_
                rintro e wz ⟨rfl, rfl⟩
                go_wp2_with fail
                refine (HP.out _).mono ?_
                rintro e wz ⟨rfl, rfl⟩
                go_wp2_with fail
                refine (HU.out _).mono ?_
                rintro e wz ⟨rfl, rfl⟩
                go_wp2_with fail
                refine (HL.out _).mono ?_
                rintro e wz ⟨rfl, rfl⟩
                go_wp2_with fail
                refine (HO.out _).mono ?_
                rintro e wz ⟨rfl, rfl⟩
                go_wp2_with fail
                go_ret
                exact ⟨by rw [HX.out]; rfl, rfl⟩
          · have s1 : (set == 1) = false := by rw [beq_eq_false_iff_ne]; omega
            have s2 : (set == 2) = false := by rw [beq_eq_false_iff_ne]; omega
            have s3 : (set == 3) = false := by rw [beq_eq_false_iff_ne]; omega
            have s4 : (set == 4) = false := by rw [beq_eq_false_iff_ne]; omega
            have s5 : (set == 5) = false := by rw [beq_eq_false_iff_ne]; omega
            have s6 : (set == 6) = false := by rw [beq_eq_false_iff_ne]; omega
            have s7 : (set == 7) = false := by rw [beq_eq_false_iff_ne]; omega
            have s8 : (set == 8) = false := by rw [beq_eq_false_iff_ne]; omega
            have HX : Hid (R = false) := by show _ = _; rw [HR.out]; rw [if_neg (by omega), if_neg (by omega), if_neg (by omega), if_neg (by omega), if_neg (by omega), if_neg (by omega), if_neg (by omega), if_neg (by omega)]
            clear hs
            go_enter Tryd.func40, Tryd.ntmps40
            go_wp2_with fail
            refine (HQ.out _).mono ?_
            rintro e wz ⟨rfl, rfl⟩
            go_wp2_with fail
            refine (HP.out _).mono ?_
            rintro e wz ⟨rfl, rfl⟩
            go_wp2_with fail
            refine (HU.out _).mono ?_
            rintro e wz ⟨rfl, rfl⟩
            go_wp2_with fail
            go_ret
            exact ⟨by rw [HX.out]; rfl, rfl⟩
        | false =>
          have hset : set = 1 ∨ set = 2 ∨ set = 3 ∨ set = 4 ∨ set = 5 ∨ set = 6 ∨ set = 7 ∨ set = 8 ∨ (set < 1 ∨ 8 < set) := by omega
          rcases hset with hs | hs | hs | hs | hs | hs | hs | hs | hs
          · subst hs
            have HX : Hid (R = false) := by show _ = _; rw [HR.out]; simp [hlow]
            go_enter Tryd.func40, Tryd.ntmps40
            go_wp2_with fail
            refine (HQ.out _).mono ?_
            rintro e wz ⟨rfl, rfl⟩
            go_wp2_with fail
            refine (HP.out _).mono ?_
            rintro e wz ⟨rfl, rfl⟩
            go_wp2_with fail
            refine (HU.out _).mono ?_
            rintro e wz ⟨rfl, rfl⟩
            go_wp2_with fail
            go_ret
            exact ⟨by rw [HX.out]; rfl, rfl⟩
          · subst hs
            cases bf with
            | true =>
              have HX : Hid (R = true) := by show _ = _; rw [HR.out]; simp [hlow]
              go_enter Tryd.func40, Tryd.ntmps40
              go_wp2_with fail
              refine (HQ.out _).mono ?_
              rintro e wz ⟨rfl, rfl⟩
              go_wp2_with fail
              refine (HP.out _).mono ?_
              rintro e wz ⟨rfl, rfl⟩
              go_wp2_with fail
              refine (HU.out _).mono ?_
              rintro e wz ⟨rfl, rfl⟩
              go_wp2_with fail
              refine (HF.out _).mono ?_
              rintro e wz ⟨rfl, rfl⟩
              go_wp2_with fail
              go_ret
              exact ⟨by rw [HX.out]; rfl, rfl⟩
            | false =>
              have HX : Hid (R = false) := by show _ = _; rw [HR.out]; simp [hlow]
              go_enter Tryd.func40, Tryd.ntmps40
              go_wp2_with fail
              refine (HQ.out _).mono ?_
              rintro e wz ⟨rfl, rfl⟩
              go_wp2_with fail
              refine (HP.out _).mono ?_
              rintro e wz ⟨rfl, rfl⟩
              go_wp2_with fail
              refine (HU.out _).mono ?_
              rintro e wz ⟨rfl, rfl⟩
              go_wp2_with fail
              refine (HF.out _).mono ?_
              rintro e wz ⟨rfl, rfl⟩
              go_wp2_with fail
              go_ret
              exact ⟨by rw [HX.out]; rfl, rfl⟩
          · subst hs
            have HX : Hid (R = false) := by show _ = _; rw [HR.out]; simp [hlow]
            go_enter Tryd.func40, Tryd.ntmps40
            go_wp2_with fail
            refine (HQ.out _).mono ?_
            rintro e wz ⟨rfl, rfl⟩
            go_wp2_with fail
            refine (HP.out _).mono ?_
            rintro e wz ⟨rfl, rfl⟩
            go_wp2_with fail
            refine (HU.out _).mono ?_
            rintro e wz ⟨rfl, rfl⟩
            go_wp2_with fail
            go_ret
            exact ⟨by rw [HX.out]; rfl, rfl⟩
          · subst hs
            have HX : Hid (R = b39) := by show _ = _; rw [HR.out]; simp [hlow]
            go_enter Tryd.func40, Tryd.ntmps40
            go_wp2_with fail
            refine (HQ.out _).mono ?_
            rintro e wz ⟨rfl, rfl⟩
            go_wp2_with fail
            refine (HP.out _).mono ?_
            rintro e wz ⟨rfl, rfl⟩
            go_wp2_with fail
            refine (HU.out _).mono ?_
            rintro e wz ⟨rfl, rfl⟩
            go_wp2_with fail
            go_ret
            exact ⟨by rw [HX.out]; rfl, rfl⟩
          · subst hs
            have HX : Hid (R = false) := by show _ = _; rw [HR.out]; simp [hlow]
            go_enter Tryd.func40, Tryd.ntmps40
            go_wp2_with fail
            refine (HQ.out _).mono ?_
            rintro e wz ⟨rfl, rfl⟩
            go_wp2_with fail
            refine (HP.out _).mono ?_
            rintro e wz ⟨rfl, rfl⟩
            go_wp2_with fail
            refine (HU.out _).mono ?_
            rintro e wz ⟨rfl, rfl⟩
            go_wp2_with fail
            go_ret
            exact ⟨by rw [HX.out]; rfl, rfl⟩
          · subst hs
            have HX : Hid (R = false) := by show _ = _; rw [HR.out]; simp [hlow]
            go_enter Tryd.func40, Tryd.ntmps40
            go_wp2_with fail
            refine (HQ.out _).mono ?_
            rintro e wz ⟨rfl, rfl⟩
            go_wp2_with fail
            refine (HP.out _).mono ?_
            rintro e wz ⟨rfl, rfl⟩
            go_wp2_with fail
            refine (HU.out _).mono ?_
            rintro e wz ⟨rfl, rfl⟩
            go_wp2_with fail
            go_ret
            exact ⟨by rw [HX.out]; rfl, rfl⟩
          · subst hs
            cases bc with
            | true =>
              have HX : Hid (R = true) := by show _ = _; rw [HR.out]; simp [hlow]
              go_enter Tryd.func40, Tryd.ntmps40
              go_wp2_with fail
              refine (HQ.out _).mono ?_
              rintro e wz ⟨rfl, rfl⟩
              go_wp2_with fail
              refine (HP.out _).mono ?_
              rintro e wz ⟨rfl, rfl⟩
              go_wp2_with fail
              refine (HU.out _).mono ?_
              rintro e wz ⟨rfl, rfl⟩
              go_wp2_with fail
              refine (HC.out _).mono ?_
              rintro e wz ⟨rfl, rfl⟩
              go_wp2_with fail
              go_ret
              exact ⟨by rw [HX.out]; rfl, rfl⟩
            | false =>
              have HX : Hid (R = false) := by show _ = _; rw [HR.out]; simp [hlow]
              go_enter Tryd.func40, Tryd.ntmps40
              go_wp2_with fail
              refine (HQ.out _).mono ?_
              rintro e wz ⟨rfl, rfl⟩
              go_wp2_with fail
              refine (HP.out _).mono ?_
              rintro e wz ⟨rfl, rfl⟩
              go_wp2_with fail
              refine (HU.out _).mono ?_
              rintro e wz ⟨rfl, rfl⟩
              go_wp2_with fail
              refine (HC.out _).mono ?_
              rintro e wz ⟨rfl, rfl⟩
              go_wp2_with fail
              go_ret
              exact ⟨by rw [HX.out]; rfl, rfl⟩
          · subst hs
            cases ba with
            | true =>
              have HX : Hid (R = false) := by show _ = _; rw [HR.out]; simp
              go_enter Tryd.func40, Tryd.ntmps40
              go_wp2_with fail
              refine (HQ.out _).mono ?_
              rintro e wz ⟨rfl, rfl⟩
              go_wp2_with fail
              refine (HP.out _).mono ?_
              rintro e wz ⟨rfl, rfl⟩
              go_wp2_with fail
              refine (HU.out _).mono ?_
              rintro e wz ⟨rfl, rfl⟩
              go_wp2_with fail
              refine (HL.out _).mono ?_
              rintro e wz ⟨rfl, rfl⟩
              go_wp2_with fail
              go_ret
              exact ⟨by rw [HX.out]; rfl, rfl⟩
            | false =>
              cases bo with
              | true =>
                have HX : Hid (R = false) := by show _ = _; rw [HR.out]; simp
                go_enter Tryd.func40, Tryd.ntmps40
                go_wp2_with fail
                refine (HQ.out _).mono ?_
                rintro e wz ⟨rfl, rfl⟩
                go_wp2_with fail
                refine (HP.out _).mono ?_
                rintro e wz ⟨rfl, rfl⟩
                go_wp2_with fail
                refine (HU.out _).mono ?_
                rintro e wz ⟨rfl, rfl⟩
                go_wp2_with fail
                refine (HL.out _).mono ?_
                rintro e wz ⟨rfl, rfl⟩
                go_wp2_with fail
                refine (HO.out _).mono ?_
                rintro e wz ⟨rfl, rfl⟩
                go_wp2_with fail
                go_ret
                exact ⟨by rw [HX.out]; rfl, rfl⟩
              | false =>
                have HX : Hid (R = true) := by show _ = _; rw [HR.out]; simp
                go_enter Tryd.func40, Tryd.ntmps40
                go_wp2_with fail
                refine (HQ.out _).mono ?_
                rintro e wz ⟨rfl, rfl⟩
                go_wp2_with fail
                refine (HP.out _).mono ?_
                rintro e wz ⟨rfl, rfl⟩
                go_wp2_with fail
                refine (HU.out _).mono ?_
                rintro e wz ⟨rfl, rfl⟩
                go_wp2_with fail
                refine (HL.out _).mono ?_
                rintro e wz ⟨rfl, rfl⟩
                go_wp2_with fail
                refine (HO.out _).mono ?_
                rintro e wz ⟨rfl, rfl⟩
                go_wp2_with fail
                go_ret
                exact ⟨by rw [HX.out]; rfl, rfl⟩
          · have s1 : (set == 1) = false := by rw [beq_eq_false_iff_ne]; omega
            have s2 : (set == 2) = false := by rw [beq_eq_false_iff_ne]; omega
            have s3 : (set == 3) = false := by rw [beq_eq_false_iff_ne]; omega
            have s4 : (set == 4) = false := by rw [beq_eq_false_iff_ne]; omega
            have s5 : (set == 5) = false := by rw [beq_eq_false_iff_ne]; omega
            have s6 : (set == 6) = false := by rw [beq_eq_false_iff_ne]; omega
            have s7 : (set == 7) = false := by rw [beq_eq_false_iff_ne]; omega
            have s8 : (set == 8) = false := by rw [beq_eq_false_iff_ne]; omega
            have HX : Hid (R = false) := by show _ = _; rw [HR.out]; rw [if_neg (by omega), if_neg (by omega), if_neg (by omega), if_neg (by omega), if_neg (by omega), if_neg (by omega), if_neg (by omega), if_neg (by omega)]
            clear hs
            go_enter Tryd.func40, Tryd.ntmps40
            go_wp2_with fail
            refine (HQ.out _).mono ?_
            rintro e wz ⟨rfl, rfl⟩
            go_wp2_with fail
            refine (HP.out _).mono ?_
            rintro e wz ⟨rfl, rfl⟩
            go_wp2_with fail
            refine (HU.out _).mono ?_
            rintro e wz ⟨rfl, rfl⟩
            go_wp2_with fail
            go_ret
            exact ⟨by rw [HX.out]; rfl, rfl⟩
end Go.Proofs.YtilamfbpbgcnpaaDoor
