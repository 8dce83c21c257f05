/- The walks of single signs: is it one, its bytes (the program's and the document's); ints held against each other. -/
import Derived.Test.YtilamfbpbgcnpaaDoorRowW
import Derived.Test.YtilamfbpbgcnpaaDoorUtfP
namespace Go.Proofs.YtilamfbpbgcnpaaDoor
open Go.RowKit
set_option linter.unusedVariables false
set_option maxRecDepth 20000
theorem ret_bool {a b : Bool} (h : a = b) : Ending.returned (.bool a) = .returned (.bool b) := by rw [h]
theorem isS_no {c : Int} (h : ¬ (0 ≤ c ∧ c ≤ 1114111 ∧ (c < 55296 ∨ 57343 < c))) : isS c = false := by simp only [isS, decide_eq_false_iff_not]; exact h
theorem scalar_calls (c : Int) (w : World) : Calls Tryd.prog 75 #[.int .i64 c] w fun e w' => e = .returned (.bool (isS c)) ∧ w' = w := by
  have hc : c < 0 ∨ (0 ≤ c ∧ c < 55296) ∨ (55296 ≤ c ∧ c ≤ 57343) ∨ (57343 < c ∧ c ≤ 1114111) ∨ 1114111 < c := by omega
  rcases hc with g | ⟨g1, g2⟩ | ⟨g1, g2⟩ | ⟨g1, g2⟩ | g
  all_goals
    go_enter Tryd.func75, Tryd.ntmps75
    go_wp2
    go_ret
    refine ⟨ret_bool ?_, rfl⟩
    by_cases hs : 0 ≤ c ∧ c ≤ 1114111 ∧ (c < 55296 ∨ 57343 < c)
    · have q := isS_iff.2 hs
      first | exact q.symm | (exfalso; omega) | (rw [q]; simp; done) | (rw [q]; simp; omega)
    · have q := isS_no hs
      first | exact q.symm | (exfalso; omega) | (rw [q]; simp; done) | (rw [q]; simp; omega)
theorem rscalar_calls (c : Int) (w : World) : Calls Tryd.prog 53 #[.int .i64 c] w fun e w' => e = .returned (.bool (isS c)) ∧ w' = w := by
  have hc : c < 0 ∨ (0 ≤ c ∧ c < 55296) ∨ (55296 ≤ c ∧ c ≤ 57343) ∨ (57343 < c ∧ c ≤ 1114111) ∨ 1114111 < c := by omega
  rcases hc with g | ⟨g1, g2⟩ | ⟨g1, g2⟩ | ⟨g1, g2⟩ | g
  all_goals
    go_enter Tryd.func53, Tryd.ntmps53
    go_wp2
    go_ret
    refine ⟨ret_bool ?_, rfl⟩
    by_cases hs : 0 ≤ c ∧ c ≤ 1114111 ∧ (c < 55296 ∨ 57343 < c)
    · have q := isS_iff.2 hs
      first | exact q.symm | (exfalso; omega) | (rw [q]; simp; done) | (rw [q]; simp; omega)
    · have q := isS_no hs
      first | exact q.symm | (exfalso; omega) | (rw [q]; simp; done) | (rw [q]; simp; omega)
theorem i64_or (a b : Nat) (ha : a < 2 ^ 63) (hb : b < 2 ^ 63) : bits .or .i64 (a : Int) (b : Int) = ((a ||| b : Nat) : Int) :=
  (bits_nat .i64 63 (by decide) (fun n h0 h1 => by rw [IntKind.wrap_i64]; omega) a b ha hb).2
theorem i64_and (a b : Nat) (ha : a < 2 ^ 63) (hb : b < 2 ^ 63) : bits .and .i64 (a : Int) (b : Int) = ((a &&& b : Nat) : Int) :=
  (bits_nat .i64 63 (by decide) (fun n h0 h1 => by rw [IntKind.wrap_i64]; omega) a b ha hb).1
theorem low6 (c : Nat) (h : c < 2 ^ 63) : bits .and .i64 (c : Int) 63 = ((c % 64 : Nat) : Int) := by
  rw [show (63 : Int) = ((63 : Nat) : Int) from rfl, i64_and c 63 h (by decide), Nat.and_two_pow_sub_one_eq_mod c 6]
/-- A mark above bits that are lower. -/
theorem or_mark (m p k : Nat) (q : Nat) (hm : m = 2 ^ k * q) (hp : p < 2 ^ k) : m ||| p = m + p := by subst hm; exact (Nat.two_pow_add_eq_or_of_lt hp q).symm
theorem u8mark (m p k q : Nat) (hm : m = 2 ^ k * q) (hp : p < 2 ^ k) (h : m + p < 256) : bits .or .u8 (m : Int) (p : Int) = ((b8 (m + p)).toNat : Int) := by
  rw [u8_or_nat m p (by omega) (by omega), or_mark m p k q hm hp, b8_nat _ h]
theorem i64mark (m p k q : Nat) (hm : m = 2 ^ k * q) (hp : p < 2 ^ k) (h : m + p < 256) : bits .or .i64 (m : Int) (p : Int) = ((b8 (m + p)).toNat : Int) := by
  rw [i64_or m p (by omega) (by omega), or_mark m p k q hm hp, b8_nat _ h]
theorem later_calls (c : Nat) (w : World) (h : c < 2 ^ 63) : Calls Tryd.prog 91 #[.int .i64 (c : Int)] w fun e w' => e = .returned (.int .u8 ((b8 (128 + c % 64)).toNat : Int)) ∧ w' = w := by
  have e1 := low6 c h
  have hl : c % 64 < 64 := Nat.mod_lt _ (by decide)
  have e2 := u8mark 128 (c % 64) 6 2 rfl hl (by omega)
  generalize c % 64 = m at *
  generalize b8 (128 + m) = x at *
  rw [show ((128 : Nat) : Int) = 128 from rfl] at e2
  go_enter Tryd.func91, Tryd.ntmps91
  go_wp2
  go_ret
  exact ⟨rfl, rfl⟩

theorem enc1 {c : Nat} (h : c < 128) : encN c = [b8 c] := by unfold encN; rw [if_pos h]
theorem enc2 {c : Nat} (h1 : ¬ c < 128) (h : c < 2048) : encN c = [b8 (192 + c / 64), b8 (128 + c % 64)] := by unfold encN; rw [if_neg h1, if_pos h]
theorem enc3 {c : Nat} (h1 : ¬ c < 2048) (h : c < 65536) : encN c = [b8 (224 + c / 4096), b8 (128 + c / 64 % 64), b8 (128 + c % 64)] := by unfold encN; rw [if_neg (by omega), if_neg h1, if_pos h]
theorem enc4 {c : Nat} (h : ¬ c < 65536) : encN c = [b8 (240 + c / 262144), b8 (128 + c / 4096 % 64), b8 (128 + c / 64 % 64), b8 (128 + c % 64)] := by unfold encN; rw [if_neg (by omega), if_neg (by omega), if_neg h]
set_option maxHeartbeats 1000000 in
theorem appendSign_calls (v : Value) (xs : List UInt8) (c : Nat) (w : World) (base : Nat) (ho : BOwn w base v xs) (hb : base ≤ w.heap.size) (hl : xs.length ≤ 500000) (hc : c ≤ 1114111) :
    Calls Tryd.prog 76 #[v, .int .i64 (c : Int)] w fun e w' => (∃ v', e = .returned v' ∧ BOwn w' base v' (xs ++ encN c)) ∧ Below base w w' := by
  by_cases h1 : c < 128
  · rw [enc1 h1]
    have e0 := b8_nat c (by omega)
    generalize b8 c = x at *
    obtain ⟨v', w', hr, ho', hg⟩ := append_run (ho.alloc (.cells #[.int .u8 (x.toNat : Int)] 5)) (Row.lit fb w [x] 5 (0, 0) (by simp)) (by simp; omega) (by simp; omega)
    have HO := hid ho'
    have HB := hid (((Below.refl base w).alloc hb _).grown hg (by simp; omega) (Own.lt ho))
    clear ho' hg ho
    rw [e0] at hr
    have g1 : (c : Int) < 128 := by omega
    clear e0 hc h1 hb hl
    go_enter Tryd.func76, Tryd.ntmps76
    go_wp2_with (at_builtin; go_must (refine wpList_append_run hr rfl _ _ rfl rfl rfl rfl ?_))
    go_ret
    exact ⟨⟨_, rfl, HO.out⟩, HB.out⟩
  · by_cases h2 : c < 2048
    · rw [enc2 h1 h2]
      obtain ⟨p1, q1⟩ : ∃ p : Nat, p = c / 64 := ⟨_, rfl⟩
      have d1 : (c : Int) / 64 = (p1 : Int) := by omega
      have b1 : p1 < 32 := by omega
      have m1 := u8mark 192 p1 6 3 rfl (by omega) (by omega)
      rw [show ((192 : Nat) : Int) = 192 from rfl] at m1
      rw [← q1]
      clear q1
      have HL := hid (later_calls c · (by omega))
      generalize b8 (192 + p1) = x0 at *
      generalize b8 (128 + c % 64) = x1 at *
      obtain ⟨v', w', hr, ho', hg⟩ := append_run (ho.alloc (.cells #[.int .u8 (x0.toNat : Int), .int .u8 (x1.toNat : Int)] 5)) (Row.lit fb w [x0, x1] 5 (0, 0) (by simp)) (by simp; omega) (by simp; omega)
      have HO := hid ho'
      have HB := hid (((Below.refl base w).alloc hb _).grown hg (by simp; omega) (Own.lt ho))
      have g1 : ¬ (c : Int) < 128 := by omega
      have g2 : (c : Int) < 2048 := by omega
      clear ho' hg ho hc h1 h2 hb hl
      go_enter Tryd.func76, Tryd.ntmps76
      go_wp2_with fail
      refine (HL.out _).mono ?_
      rintro e w1 ⟨rfl, rfl⟩
      go_wp2_with (at_builtin; go_must (refine wpList_append_run hr rfl _ _ rfl rfl rfl rfl ?_))
      go_ret
      exact ⟨⟨_, rfl, HO.out⟩, HB.out⟩
    · by_cases h3 : c < 65536
      · rw [enc3 h2 h3]
        obtain ⟨p1, q1⟩ : ∃ p : Nat, p = c / 64 := ⟨_, rfl⟩
        obtain ⟨p2, q2⟩ : ∃ p : Nat, p = c / 4096 := ⟨_, rfl⟩
        have d1 : (c : Int) / 64 = (p1 : Int) := by omega
        have d2 : (c : Int) / 4096 = (p2 : Int) := by omega
        have b1 : p1 < 1024 := by omega
        have b2 : p2 < 16 := by omega
        have m1 := u8mark 224 p2 5 7 rfl (by omega) (by omega)
        rw [show ((224 : Nat) : Int) = 224 from rfl] at m1
        rw [← q1, ← q2]
        clear q1 q2
        have HL := hid (later_calls c · (by omega))
        have HL1 := hid (later_calls p1 · (by omega))
        generalize b8 (224 + p2) = x0 at *
        generalize b8 (128 + p1 % 64) = x1 at *
        generalize b8 (128 + c % 64) = x2 at *
        obtain ⟨v', w', hr, ho', hg⟩ := append_run (ho.alloc (.cells #[.int .u8 (x0.toNat : Int), .int .u8 (x1.toNat : Int), .int .u8 (x2.toNat : Int)] 5)) (Row.lit fb w [x0, x1, x2] 5 (0, 0) (by simp)) (by simp; omega) (by simp; omega)
        have HO := hid ho'
        have HB := hid (((Below.refl base w).alloc hb _).grown hg (by simp; omega) (Own.lt ho))
        have g1 : ¬ (c : Int) < 128 := by omega
        have g2 : ¬ (c : Int) < 2048 := by omega
        have g3 : (c : Int) < 65536 := by omega
        clear ho' hg ho hc h1 h2 h3 hb hl
        go_enter Tryd.func76, Tryd.ntmps76
        go_wp2_with fail
        refine (HL1.out _).mono ?_
        rintro e w1 ⟨rfl, rfl⟩
        go_wp2_with fail
        refine (HL.out _).mono ?_
        rintro e w1 ⟨rfl, rfl⟩
        go_wp2_with (at_builtin; go_must (refine wpList_append_run hr rfl _ _ rfl rfl rfl rfl ?_))
        go_ret
        exact ⟨⟨_, rfl, HO.out⟩, HB.out⟩
      · rw [enc4 h3]
        obtain ⟨p1, q1⟩ : ∃ p : Nat, p = c / 64 := ⟨_, rfl⟩
        obtain ⟨p2, q2⟩ : ∃ p : Nat, p = c / 4096 := ⟨_, rfl⟩
        obtain ⟨p3, q3⟩ : ∃ p : Nat, p = c / 262144 := ⟨_, rfl⟩
        have d1 : (c : Int) / 64 = (p1 : Int) := by omega
        have d2 : (c : Int) / 4096 = (p2 : Int) := by omega
        have d3 : (c : Int) / 262144 = (p3 : Int) := by omega
        have b1 : p1 < 65536 := by omega
        have b2 : p2 < 65536 := by omega
        have b3 : p3 < 5 := by omega
        have m1 := u8mark 240 p3 4 15 rfl (by omega) (by omega)
        rw [show ((240 : Nat) : Int) = 240 from rfl] at m1
        rw [← q1, ← q2, ← q3]
        clear q1 q2 q3
        have HL := hid (later_calls c · (by omega))
        have HL1 := hid (later_calls p1 · (by omega))
        have HL2 := hid (later_calls p2 · (by omega))
        generalize b8 (240 + p3) = x0 at *
        generalize b8 (128 + p2 % 64) = x1 at *
        generalize b8 (128 + p1 % 64) = x2 at *
        generalize b8 (128 + c % 64) = x3 at *
        obtain ⟨v', w', hr, ho', hg⟩ := append_run (ho.alloc (.cells #[.int .u8 (x0.toNat : Int), .int .u8 (x1.toNat : Int), .int .u8 (x2.toNat : Int), .int .u8 (x3.toNat : Int)] 5)) (Row.lit fb w [x0, x1, x2, x3] 5 (0, 0) (by simp)) (by simp; omega) (by simp; omega)
        have HO := hid ho'
        have HB := hid (((Below.refl base w).alloc hb _).grown hg (by simp; omega) (Own.lt ho))
        have g1 : ¬ (c : Int) < 128 := by omega
        have g2 : ¬ (c : Int) < 2048 := by omega
        have g3 : ¬ (c : Int) < 65536 := by omega
        clear ho' hg ho hc h1 h2 h3 hb hl
        go_enter Tryd.func76, Tryd.ntmps76
        go_wp2_with fail
        refine (HL2.out _).mono ?_
        rintro e w1 ⟨rfl, rfl⟩
        go_wp2_with fail
        refine (HL1.out _).mono ?_
        rintro e w1 ⟨rfl, rfl⟩
        go_wp2_with fail
        refine (HL.out _).mono ?_
        rintro e w1 ⟨rfl, rfl⟩
        go_wp2_with (at_builtin; go_must (refine wpList_append_run hr rfl _ _ rfl rfl rfl rfl ?_))
        go_ret
        exact ⟨⟨_, rfl, HO.out⟩, HB.out⟩
end Go.Proofs.YtilamfbpbgcnpaaDoor
