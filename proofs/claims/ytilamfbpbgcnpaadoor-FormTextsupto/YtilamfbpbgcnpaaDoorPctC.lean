/- The program's digit and next; the document's Digit. -/
import Derived.Test.YtilamfbpbgcnpaaDoorRowW
import Derived.Test.YtilamfbpbgcnpaaDoorPctP
namespace Go.Proofs.YtilamfbpbgcnpaaDoor
open Go.RowKit
set_option linter.unusedVariables false
set_option maxRecDepth 20000
theorem hexV_lt {n d : Nat} (h : hexV n = some d) : d < 16 := by
  unfold hexV at h
  split at h
  · simp at h; omega
  · split at h
    · simp at h; omega
    · split at h
      · simp at h; omega
      · cases h
theorem digit_yes (n d : Nat) (w : World) (hn : n < 256) (h : hexV n = some d) : Calls Tryd.prog 88 #[.int .u8 (n : Int)] w fun e w' => e = .returned (.tuple #[.int .u8 (d : Int), .bool true]) ∧ w' = w := by
  unfold hexV at h
  by_cases h1 : 48 ≤ n ∧ n ≤ 57
  · rw [if_pos h1] at h
    obtain ⟨g1, g2⟩ := h1
    have hd : (n : Int) - 48 = (d : Int) := by simp at h; omega
    clear h
    go_enter Tryd.func88, Tryd.ntmps88
    go_wp2
    go_ret2
    exact ⟨rfl, rfl⟩
  · rw [if_neg h1] at h
    by_cases h2 : 97 ≤ n ∧ n ≤ 102
    · rw [if_pos h2] at h
      obtain ⟨g1, g2⟩ := h2
      have hd : (n : Int) - 97 + 10 = (d : Int) := by simp at h; omega
      have g3 : ¬ (n : Int) ≤ 57 := by omega
      have g4 : ¬ (n : Int) ≤ 70 := by omega
      clear h h1
      go_enter Tryd.func88, Tryd.ntmps88
      go_wp2
      go_ret2
      exact ⟨rfl, rfl⟩
    · rw [if_neg h2] at h
      by_cases h3 : 65 ≤ n ∧ n ≤ 70
      · rw [if_pos h3] at h
        obtain ⟨g1, g2⟩ := h3
        have hd : (n : Int) - 65 + 10 = (d : Int) := by simp at h; omega
        have g3 : ¬ (n : Int) ≤ 57 := by omega
        clear h h1 h2
        go_enter Tryd.func88, Tryd.ntmps88
        go_wp2
        go_ret2
        exact ⟨rfl, rfl⟩
      · rw [if_neg h3] at h
        cases h
theorem digit_no (n : Nat) (w : World) (hn : n < 256) (h : hexV n = none) : Calls Tryd.prog 88 #[.int .u8 (n : Int)] w fun e w' => e = .returned (.tuple #[.int .u8 0, .bool false]) ∧ w' = w := by
  unfold hexV at h
  by_cases h1 : 48 ≤ n ∧ n ≤ 57
  · rw [if_pos h1] at h; cases h
  · rw [if_neg h1] at h
    by_cases h2 : 97 ≤ n ∧ n ≤ 102
    · rw [if_pos h2] at h; cases h
    · rw [if_neg h2] at h
      by_cases h3 : 65 ≤ n ∧ n ≤ 70
      · rw [if_pos h3] at h; cases h
      · clear h
        have hc : n < 48 ∨ (57 < n ∧ n < 65) ∨ (70 < n ∧ n < 97) ∨ 102 < n := by omega
        clear h1 h2 h3
        rcases hc with g | ⟨g1, g2⟩ | ⟨g1, g2⟩ | g
        all_goals
          go_enter Tryd.func88, Tryd.ntmps88
          go_wp2
          go_ret2
          exact ⟨rfl, rfl⟩
/-- The value of a digit as the document tells it; -1: none. -/
def rdPc (n : Nat) : Int := match hexV n with
  | some d => (d : Int)
  | none => -1
theorem rdigit_calls (n : Nat) (hn : n < 256) (w : World) : Calls Tryd.prog 55 #[.int .u8 (n : Int)] w fun e w' => e = .returned (.int .i64 (rdPc n)) ∧ w' = w := by
  have HR : Hid (rdPc n = if 48 ≤ n ∧ n ≤ 57 then (n : Int) - 48 else if 97 ≤ n ∧ n ≤ 102 then (n : Int) - 87 else if 65 ≤ n ∧ n ≤ 70 then (n : Int) - 55 else -1) := by
    show rdPc n = _
    unfold rdPc hexV
    by_cases h1 : 48 ≤ n ∧ n ≤ 57
    · rw [if_pos h1, if_pos h1]; simp only []; omega
    · rw [if_neg h1, if_neg h1]
      by_cases h2 : 97 ≤ n ∧ n ≤ 102
      · rw [if_pos h2, if_pos h2]; simp only []; omega
      · rw [if_neg h2, if_neg h2]
        by_cases h3 : 65 ≤ n ∧ n ≤ 70
        · rw [if_pos h3, if_pos h3]; simp only []; omega
        · rw [if_neg h3, if_neg h3]
  have hc : n < 48 ∨ (48 ≤ n ∧ n ≤ 57) ∨ (57 < n ∧ n < 65) ∨ (57 < n ∧ 65 ≤ n ∧ n ≤ 70) ∨ (70 < n ∧ n < 97) ∨ (57 < n ∧ 97 ≤ n ∧ n ≤ 102) ∨ 102 < n := by omega
  rcases hc with g | ⟨g1, g2⟩ | ⟨g1, g2⟩ | ⟨g1, g2, g3⟩ | ⟨g1, g2⟩ | ⟨g1, g2, g3⟩ | g
  all_goals
    go_enter Tryd.func55, Tryd.ntmps55
    go_wp2
    go_ret
    refine ⟨?_, rfl⟩
    rw [HR.out]
    repeat (first | rw [if_pos (by omega)] | rw [if_neg (by omega)])
    first | rfl | exact ret_int (by omega)
theorem u8pack (h l : Nat) (hh : h < 16) (hl : l < 16) : bits .or .u8 ((h : Int) * 16) (l : Int) = ((UInt8.ofNat (h * 16 + l)).toNat : Int) := by
  have e : (UInt8.ofNat (h * 16 + l)).toNat = h * 16 + l := by simp; omega
  have := Nat.two_pow_add_eq_or_of_lt (i := 4) (show l < 2 ^ 4 by omega) h
  rw [e, show h * 16 + l = h * 16 ||| l by rw [Nat.mul_comm h 16]; exact this]
  exact u8_or_nat (h * 16) l (by omega) (by omega)
theorem i64pack (h l : Nat) (hh : h < 16) (hl : l < 16) : bits .or .i64 ((h : Int) * 16) (l : Int) = ((UInt8.ofNat (h * 16 + l)).toNat : Int) := by
  have e : (UInt8.ofNat (h * 16 + l)).toNat = h * 16 + l := by simp; omega
  have := Nat.two_pow_add_eq_or_of_lt (i := 4) (show l < 2 ^ 4 by omega) h
  rw [e, show h * 16 + l = h * 16 ||| l by rw [Nat.mul_comm h 16]; exact this]
  exact (bits_nat .i64 63 (by decide) (fun n h0 h1 => by rw [IntKind.wrap_i64]; omega) (h * 16) l (by omega) (by omega)).2
/-- The first byte that a text tells, and how many bytes tell it. -/
def nextR : List UInt8 → UInt8 × Nat
  | [] => (0, 0)
  | c :: r => if c = 37 then (match r with
      | a :: b :: _ => (match two a b with
        | some x => (x, 3)
        | none => (c, 1))
      | _ => (c, 1)) else (c, 1)
theorem nextR_plain {c : UInt8} {r : List UInt8} (h : c ≠ 37) : nextR (c :: r) = (c, 1) := if_neg h
theorem nextR_some {a b : UInt8} {r : List UInt8} {x : UInt8} (h : two a b = some x) : nextR (37 :: a :: b :: r) = (x, 3) := by
  show (if (37 : UInt8) = 37 then (match two a b with
    | some x => (x, 3)
    | none => ((37 : UInt8), 1)) else (37, 1)) = _
  rw [if_pos rfl, h]
theorem nextR_none {a b : UInt8} {r : List UInt8} (h : two a b = none) : nextR (37 :: a :: b :: r) = (37, 1) := by
  show (if (37 : UInt8) = 37 then (match two a b with
    | some x => (x, 3)
    | none => ((37 : UInt8), 1)) else (37, 1)) = _
  rw [if_pos rfl, h]
theorem two_some {a b : UInt8} {x y : Nat} (h : hexV a.toNat = some x) (k : hexV b.toNat = some y) : two a b = some (UInt8.ofNat (x * 16 + y)) := by unfold two; rw [h, k]
theorem two_noneL {a b : UInt8} (h : hexV a.toNat = none) : two a b = none := by unfold two; rw [h]
theorem two_noneR {a b : UInt8} (h : hexV b.toNat = none) : two a b = none := by
  unfold two
  rw [h]
  cases hexV a.toNat <;> rfl
theorem unR_next {l : List UInt8} (h : l ≠ []) : unR l = (nextR l).1 :: unR (l.drop (nextR l).2) := by
  match l, h with
  | c :: r, _ =>
    by_cases hc : c = 37
    · subst hc
      match r with
      | [] => rfl
      | [a] => rfl
      | a :: b :: r' =>
        cases ht : two a b with
        | some x => rw [unR_two ht, nextR_some ht]; rfl
        | none => rw [unR_not ht, nextR_none ht]; rfl
    · rw [unR_plain hc, nextR_plain hc]
      rfl
theorem nextR_size {l : List UInt8} (h : l ≠ []) : 1 ≤ (nextR l).2 ∧ (nextR l).2 ≤ l.length := by
  match l, h with
  | c :: r, _ =>
    by_cases hc : c = 37
    · subst hc
      match r with
      | [] => exact ⟨Nat.le_refl _, Nat.le_refl _⟩
      | [a] => exact ⟨Nat.le_refl _, by show 1 ≤ 2; decide⟩
      | a :: b :: r' =>
        cases ht : two a b with
        | some x => rw [nextR_some ht]; simp
        | none => rw [nextR_none ht]; simp
    · rw [nextR_plain hc]
      simp
theorem bytes_num (s : ByteArray) : s.data.toList.length = s.size := by
  show s.data.toList.length = s.data.size
  rw [Array.length_toList]
theorem bytes_at (s : ByteArray) (k : Nat) (h : k < s.size) : s.data.toList[k]? = some s[k] := by
  rw [List.getElem?_eq_getElem (by rw [bytes_num]; exact h)]; rfl
theorem bytes_three (s : ByteArray) (h : 3 ≤ s.size) : ∃ r, s.data.toList = s[0] :: s[1] :: s[2] :: r := by
  have h0 := bytes_at s 0 (by omega)
  have h1 := bytes_at s 1 (by omega)
  have h2 := bytes_at s 2 (by omega)
  revert h0 h1 h2
  generalize s[0] = a
  generalize s[1] = b
  generalize s[2] = c
  generalize s.data.toList = l
  intro h0 h1 h2
  match l, h0, h1, h2 with
  | x :: y :: z :: r, h0, h1, h2 =>
    simp at h0 h1 h2
    subst h0 h1 h2
    exact ⟨r, rfl⟩
  | [x, y], _, _, h2 => simp at h2
  | [x], _, h1, _ => simp at h1
  | [], h0, _, _ => simp at h0
theorem bytes_one (s : ByteArray) (h : 0 < s.size) : ∃ r, s.data.toList = s[0] :: r ∧ r.length + 1 = s.size := by
  have h0 := bytes_at s 0 h
  have hl := bytes_num s
  revert h0 hl
  generalize s[0] = a
  generalize s.data.toList = l
  intro h0 hl
  match l, h0, hl with
  | x :: r, h0, hl =>
    simp at h0
    subst h0
    exact ⟨r, rfl, by rw [← hl]; rfl⟩
  | [], h0, _ => simp at h0
theorem u8_eq {a b : UInt8} (h : a.toNat = b.toNat) : a = b := UInt8.toNat_inj.1 h
set_option maxHeartbeats 1000000 in
theorem next_callsPc (s : ByteArray) (w : World) (hs : 0 < s.size) (hm : s.size ≤ 100000) :
    Calls Tryd.prog 73 #[.string s] w fun e w' => e = .returned (.tuple #[.int .u8 ((nextR s.data.toList).1.toNat : Int), .int .i64 ((nextR s.data.toList).2 : Int)]) ∧ w' = w := by
  obtain ⟨r, hr, hrl⟩ := bytes_one s hs
  obtain ⟨z, hz⟩ : ∃ z, s[0].toNat = z := ⟨_, rfl⟩
  have z9 : (z : Int) < 256 := by have := byte_lt s[0]; omega
  have z0 : (0 : Int) ≤ (z : Int) := by omega
  have p0 : (0 : Int) < (s.size : Int) := by omega
  by_cases h37 : z = 37
  · have HC : Hid (s[0] = 37) := u8_eq (by rw [hz, h37]; rfl)
    by_cases h3 : 3 ≤ s.size
    · obtain ⟨r', hr'⟩ := bytes_three s h3
      have pk1 : 1 < s.size := by omega
      have pk2 : 2 < s.size := by omega
      obtain ⟨x, hx⟩ : ∃ x, (s[1]'pk1).toNat = x := ⟨_, rfl⟩
      obtain ⟨y, hy⟩ : ∃ y, (s[2]'pk2).toNat = y := ⟨_, rfl⟩
      rw [HC.out] at hr'
      have HN : Hid (s.data.toList = (37 : UInt8) :: s[1]'pk1 :: s[2]'pk2 :: r') := hr'
      clear hr hrl hr' h3
      have x9 : x < 256 := by have := byte_lt s[1]; omega
      have y9 : y < 256 := by have := byte_lt s[2]; omega
      have T1 : Hid (hexV x = none → two s[1] s[2] = none) := fun h => two_noneL (by rw [hx]; exact h)
      have T2 : Hid (hexV y = none → two s[1] s[2] = none) := fun h => two_noneR (by rw [hy]; exact h)
      have T3 : Hid (∀ d1 d2, hexV x = some d1 → hexV y = some d2 → two s[1] s[2] = some (UInt8.ofNat (d1 * 16 + d2))) := fun d1 d2 h k => two_some (by rw [hx]; exact h) (by rw [hy]; exact k)
      have p3 : ¬ (s.size : Int) < 3 := by omega
      have p1 : (1 : Int) < (s.size : Int) := by omega
      have p2 : (2 : Int) < (s.size : Int) := by omega
      subst h37
      clear z9 z0 HC
      have DY1 := hid (fun d (h : hexV x = some d) (w : World) => digit_yes x d w x9 h)
      have DN1 := hid (fun (h : hexV x = none) (w : World) => digit_no x w x9 h)
      have DY2 := hid (fun d (h : hexV y = some d) (w : World) => digit_yes y d w y9 h)
      have DN2 := hid (fun (h : hexV y = none) (w : World) => digit_no y w y9 h)
      clear x9 y9
      cases hvx : hexV x with
      | none =>
        have HX : Hid (nextR s.data.toList = (37, 1)) := by
          show _ = _
          rw [HN.out]; exact nextR_none (T1.out hvx)
        have E1 := hid (DN1.out hvx)
        clear HN T1 T2 T3 DY1 DN1 hvx
        cases hvy : hexV y with
        | none =>
          have E2 := hid (DN2.out hvy)
          clear DY2 DN2 hvy
          go_enter Tryd.func73, Tryd.ntmps73
          go_wp2_with fail
          refine (E1.out _).mono ?_
          rintro e wz ⟨rfl, rfl⟩
          go_wp2_with fail
          refine (E2.out _).mono ?_
          rintro e wz ⟨rfl, rfl⟩
          go_wp2_with fail
          go_ret2
          exact ⟨by rw [HX.out]; rfl, rfl⟩
        | some d2 =>
          have E2 := hid (DY2.out d2 hvy)
          clear DY2 DN2 hvy
          go_enter Tryd.func73, Tryd.ntmps73
          go_wp2_with fail
          refine (E1.out _).mono ?_
          rintro e wz ⟨rfl, rfl⟩
          go_wp2_with fail
          refine (E2.out _).mono ?_
          rintro e wz ⟨rfl, rfl⟩
          go_wp2_with fail
          go_ret2
          exact ⟨by rw [HX.out]; rfl, rfl⟩
      | some d1 =>
        have E1 := hid (DY1.out d1 hvx)
        have hd1 := hexV_lt hvx
        clear DY1 DN1
        cases hvy : hexV y with
        | none =>
          have HX : Hid (nextR s.data.toList = (37, 1)) := by
            show _ = _
            rw [HN.out]; exact nextR_none (T2.out hvy)
          have E2 := hid (DN2.out hvy)
          clear HN T1 T2 T3 DY2 DN2 hvy hvx
          go_enter Tryd.func73, Tryd.ntmps73
          go_wp2_with fail
          refine (E1.out _).mono ?_
          rintro e wz ⟨rfl, rfl⟩
          go_wp2_with fail
          refine (E2.out _).mono ?_
          rintro e wz ⟨rfl, rfl⟩
          go_wp2_with fail
          go_ret2
          exact ⟨by rw [HX.out]; rfl, rfl⟩
        | some d2 =>
          have HX : Hid (nextR s.data.toList = (UInt8.ofNat (d1 * 16 + d2), 3)) := by
            show _ = _
            rw [HN.out]; exact nextR_some (T3.out d1 d2 hvx hvy)
          have E2 := hid (DY2.out d2 hvy)
          have hd2 := hexV_lt hvy
          have pk := u8pack d1 d2 hd1 hd2
          clear HN T1 T2 T3 DY2 DN2 hvy hvx
          generalize UInt8.ofNat (d1 * 16 + d2) = c at *
          go_enter Tryd.func73, Tryd.ntmps73
          go_wp2_with fail
          refine (E1.out _).mono ?_
          rintro e wz ⟨rfl, rfl⟩
          go_wp2_with fail
          refine (E2.out _).mono ?_
          rintro e wz ⟨rfl, rfl⟩
          go_wp2_with fail
          go_ret2
          exact ⟨by rw [HX.out]; rfl, rfl⟩
    · have HX : Hid (nextR s.data.toList = (37, 1)) := by
        show _ = _
        rw [hr, HC.out]
        match r, hrl with
        | [], _ => rfl
        | [a], _ => rfl
        | a :: b :: r', h => exfalso; simp at h; omega
      have p3 : (s.size : Int) < 3 := by omega
      subst h37
      clear hr hrl h3 z9 z0 HC
      go_enter Tryd.func73, Tryd.ntmps73
      go_wp2_with fail
      go_ret2
      exact ⟨by rw [HX.out]; rfl, rfl⟩
  · have HX : Hid (nextR s.data.toList = (s[0], 1)) := by
      show _ = _
      rw [hr, nextR_plain]
      intro e
      exact h37 (by rw [← hz, e]; rfl)
    have q1 : ((z : Int) != 37) = true := by rw [bne_iff_ne]; omega
    have HZ := hid hz
    clear hr hrl h37
    go_enter Tryd.func73, Tryd.ntmps73
    go_wp2_with fail
    go_ret2
    exact ⟨by rw [HX.out, HZ.out]; rfl, rfl⟩
end Go.Proofs.YtilamfbpbgcnpaaDoor
