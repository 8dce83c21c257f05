/- The walk of readNumber. -/
import Derived.Test.YtpjajiilgojbgaaPunyF
namespace Go.Proofs.Ytpjajiilgojbgaa
open Go.RowKit Go.Shelf
set_option linter.unusedVariables false
def vals (s : ByteArray) : List (Option Nat) := (bytesOf s).map val
theorem vals_len (s : ByteArray) : (vals s).length = s.size := by simp [vals, bytesOf_len]
theorem vals_drop {s : ByteArray} {i : Nat} (h : i < s.size) : (vals s).drop i = val s[i] :: (vals s).drop (i + 1) := by
  have h2 : i < (vals s).length := by rw [vals_len]; exact h
  rw [List.drop_eq_getElem_cons h2]
  congr 1
  simp [vals, bytesOf]
  rfl
theorem val_lt {c : UInt8} {d : Nat} (h : val c = some d) : d < 36 := by
  unfold val at h
  have := byte_lt c
  split at h
  · injection h with h; omega
  · split at h
    · injection h with h; omega
    · split at h
      · injection h with h; omega
      · cases h
/-- What readNumber answers. -/
def ReadPost (R : Option (Nat × List (Option Nat))) (s : ByteArray) (e : Ending) : Prop :=
  (R = none ∧ e = .returned (.tuple #[.int .i64 0, .string (strOf []), .bool false])) ∨ (∃ m r j, R = some (m, r) ∧ j ≤ s.size ∧ (vals s).drop j = r ∧ e = .returned (.tuple #[.int .i64 ((m : Nat) : Int), .string (s.extract j s.size), .bool true]))
theorem ReadPost.no {R : Option (Nat × List (Option Nat))} {s : ByteArray} {e : Ending} (h : R = none) (he : e = .returned (.tuple #[.int .i64 0, .string (strOf []), .bool false])) : ReadPost R s e := .inl ⟨h, he⟩
theorem ReadPost.yes {R : Option (Nat × List (Option Nat))} {s : ByteArray} {e : Ending} {m : Nat} {r : List (Option Nat)} {j : Nat} (h : R = some (m, r)) (hj : j ≤ s.size) (hr : (vals s).drop j = r) (he : e = .returned (.tuple #[.int .i64 ((m : Nat) : Int), .string (s.extract j s.size), .bool true])) : ReadPost R s e := .inr ⟨m, r, j, h, hj, hr, he⟩
set_option maxRecDepth 20000 in
set_option maxHeartbeats 4000000 in
theorem read_calls (s : ByteArray) (n b : Nat) (w : World) (hs : s.size ≤ 5000) (hn : n ≤ 5000) (hb : b ≤ 2340) :
    Calls Try.prog 28 #[.string s, .int .i64 (n : Int), .int .i64 (b : Int)] w fun e w' => ReadPost (rd (vals s) n 1 36 b) s e ∧ Below w.heap.size w w' := by
  have HVL := hid (vals_len s)
  have HS := hid hs
  have HBB := hid hb
  have s1 : (s.size : Int) ≤ 5000 := by omega
  have b0 : (0 : Int) ≤ (b : Int) := by omega
  have b1 : (b : Int) ≤ 2340 := by omega
  obtain ⟨R, hR⟩ : ∃ R, R = rd (vals s) n 1 36 b := ⟨_, rfl⟩
  rw [← hR]
  have HR := hid hR
  have HN := hid hn
  clear hR hs hn hb
  go_enter Try.func28, Try.ntmps28
  go_wp2_with fail
  go_loop [1, 9, 16] (fun vn vw vi => ∃ i m wt : Nat, vi = .int .i64 (i : Int) ∧ vn = .int .i64 (m : Int) ∧ vw = .int .i64 (wt : Int) ∧ i ≤ s.size ∧ m ≤ 2147483647 ∧ 1 ≤ wt ∧ wt ≤ 80000000000 ∧ R = rd ((vals s).drop i) m wt (36 * (i + 1)) b) (fun _ _ vi => s.size - (intOf vi).toNat)
  case atStart => exact ⟨0, n, 1, rfl, rfl, rfl, Nat.zero_le _, by have := HN.out; omega, Nat.le_refl _, by decide, HR.out⟩
  case round =>
    obtain ⟨i, m, wt, rfl, rfl, rfl, hi, hm, hw1, hw2, hr⟩ := hrel
    clear HR HN
    have i0 : (0 : Int) ≤ (i : Int) := by omega
    have m0 : (0 : Int) ≤ (m : Int) := by omega
    have m1 : (m : Int) ≤ 2147483647 := by omega
    have w0 : (1 : Int) ≤ (wt : Int) := by omega
    have w1 : (wt : Int) ≤ 80000000000 := by omega
    by_cases hlt : i < s.size
    · have i1 : (i : Int) < (s.size : Int) := by omega
      rw [vals_drop hlt] at hr
      obtain ⟨x, hx⟩ : ∃ x, s[i] = x := ⟨_, rfl⟩
      have HD := hid (fun w' => digit_calls x w')
      have hx256 := byte_lt x
      rw [hx] at hr
      obtain ⟨z, hz⟩ : ∃ z, x.toNat = z := ⟨_, rfl⟩
      have hz' : s[i].toNat = z := by rw [hx, hz]
      rw [hz] at HD hx256
      have z0 : (0 : Int) ≤ (z : Int) := by omega
      have z1 : (z : Int) < 256 := by omega
      have HK := hid hlt
      clear hx hi hz hx256
      cases hv : val x with
      | none =>
        rw [hv] at hr HD
        have HX : Hid (R = none) := by show _ = _; rw [hr]; rfl
        clear hr hm hw1 hw2 hv
        simp only [valPair] at HD
        go_wp2_with fail
        refine (HD.out _).mono ?_
        rintro e w1 ⟨rfl, rfl⟩
        go_wp2_with fail
        go_ret3
        exact ⟨ReadPost.no HX.out rfl, Below.refl _ _⟩
      | some d =>
        have hd36 := val_lt hv
        rw [hv] at hr HD
        clear hv
        simp only [valPair] at HD
        simp only [rd] at hr
        have d0 : (0 : Int) ≤ (d : Int) := by omega
        have d1 : (d : Int) < 36 := by omega
        by_cases hbig : most < wt
        · have HX : Hid (R = none) := by show _ = _; rw [hr, if_pos (.inl hbig)]
          have g : (2147483647 : Int) < (wt : Int) := by unfold most at hbig; omega
          clear hr hm hw1 hw2 hbig
          go_wp2_with fail
          refine (HD.out _).mono ?_
          rintro e w1 ⟨rfl, rfl⟩
          go_wp2_with fail
          go_ret3
          exact ⟨ReadPost.no HX.out rfl, Below.refl _ _⟩
        · obtain ⟨q, hq⟩ : ∃ q, q = (most - m) / wt := ⟨_, rfl⟩
          have e1 : ((2147483647 : Int) - (m : Int)) / (wt : Int) = (q : Int) := by rw [hq, Int.natCast_ediv]; congr 1; unfold most; omega
          have g : ¬ (2147483647 : Int) < (wt : Int) := by unfold most at hbig; omega
          have g' : (wt : Int) ≤ 2147483647 := by omega
          by_cases hdq : q < d
          · have HX : Hid (R = none) := by show _ = _; rw [hr, if_pos (.inr (by rw [← hq]; exact hdq))]
            have gq : (q : Int) < (d : Int) := by omega
            clear hr hm hw1 hw2 hbig hq hdq
            go_wp2_with fail
            refine (HD.out _).mono ?_
            rintro e w1 ⟨rfl, rfl⟩
            go_wp2_with fail
            go_ret3
            exact ⟨ReadPost.no HX.out rfl, Below.refl _ _⟩
          · have gq : ¬ (q : Int) < (d : Int) := by omega
            have hdw : d * wt ≤ most - m := (Nat.le_div_iff_mul_le (by omega)).1 (by omega)
            rw [if_neg (by rw [← hq]; omega)] at hr
            obtain ⟨p, hp⟩ : ∃ p, p = d * wt := ⟨_, rfl⟩
            have e2 : (d : Int) * (wt : Int) = (p : Int) := by rw [hp, Int.natCast_mul]
            rw [← hp] at hr hdw
            have p0 : (0 : Int) ≤ (p : Int) := by omega
            have p1 : (m : Int) + (p : Int) ≤ 2147483647 := by unfold most at hdw; omega
            have t1 := thr_ge (36 * (i + 1)) b
            have t2 := thr_le (36 * (i + 1)) b
            have HT : Hid (∀ w', Calls Try.prog 30 #[.int .i64 (((i : Int) + 1) * 36), .int .i64 (b : Int)] w' fun e w2 => e = .returned (.int .i64 ((thr (36 * (i + 1)) b : Nat) : Int)) ∧ w2 = w') := fun w' => by
              have := thr_calls (36 * (i + 1)) b w' (by have := HS.out; omega) (by have := HBB.out; omega)
              rw [show ((36 * (i + 1) : Nat) : Int) = ((i : Int) + 1) * 36 by omega] at this
              exact this
            generalize thr (36 * (i + 1)) b = t at *
            have t3 : (1 : Int) ≤ (t : Int) := by omega
            have t4 : (t : Int) ≤ 26 := by omega
            by_cases hdt : d < t
            · rw [if_pos hdt] at hr
              have HX := hid hr
              have gt : (d : Int) < (t : Int) := by omega
              clear hr hm hw1 hw2 hbig hq hdq hdt hp hdw t1 t2 hd36
              go_wp2_with fail
              refine (HD.out _).mono ?_
              rintro e w1 ⟨rfl, rfl⟩
              go_wp2_with fail
              refine (HT.out _).mono ?_
              rintro e w2 ⟨rfl, rfl⟩
              go_wp2_with fail
              go_quiet (fail)
              have HB := hid (below_drewN (Below.refl w2.heap.size w2) nq)
              generalize w2.drewN nq = wx at *
              go_wp2_with fail
              go_ret3
              exact ⟨ReadPost.yes (j := i + 1) HX.out HK.out rfl rfl, HB.out⟩
            · rw [if_neg hdt] at hr
              obtain ⟨y, hy⟩ : ∃ y, y = wt * (36 - t) := ⟨_, rfl⟩
              have e3 : (wt : Int) * (36 - (t : Int)) = (y : Int) := by rw [hy, Int.natCast_mul]; congr 1; omega
              rw [← hy] at hr
              have hy1 : 1 ≤ y := by rw [hy]; exact Nat.mul_pos hw1 (by omega)
              have hy2 : y ≤ 2147483647 * 35 := by rw [hy]; exact Nat.mul_le_mul (by unfold most at hbig; omega) (by omega)
              have y0 : (0 : Int) ≤ (y : Int) := by omega
              have y1 : (y : Int) ≤ 80000000000 := by omega
              have HX : Hid (m + p ≤ 2147483647 ∧ 1 ≤ y ∧ y ≤ 80000000000 ∧ R = rd ((vals s).drop (i + 1)) (m + p) y (36 * (i + 1 + 1)) b) := ⟨by unfold most at hdw; omega, hy1, by omega, hr⟩
              have gt : ¬ (d : Int) < (t : Int) := by omega
              clear hr hm hw1 hw2 hbig hq hdq hdt hp hdw t1 t2 hd36 hy hy1 hy2
              go_wp2_with fail
              refine (HD.out _).mono ?_
              rintro e w1 ⟨rfl, rfl⟩
              go_wp2_with fail
              refine (HT.out _).mono ?_
              rintro e w2 ⟨rfl, rfl⟩
              go_wp2_with fail
              go_round
              case rel => exact ⟨i + 1, m + p, y, by go_num, by go_num, rfl, HK.out, HX.out.1, HX.out.2.1, HX.out.2.2.1, HX.out.2.2.2⟩
              case measure => have := HK.out; simp [intOf]; omega
    · have HX : Hid (R = none) := by
        show _ = _
        rw [hr, List.drop_eq_nil_of_le (by rw [vals_len]; omega)]; rfl
      have g : ¬ (i : Int) < (s.size : Int) := by omega
      clear hr hm hw1 hw2 hlt hi
      go_wp2_with fail
      go_ret3
      exact ⟨ReadPost.no HX.out rfl, Below.refl _ _⟩
end Go.Proofs.Ytpjajiilgojbgaa
