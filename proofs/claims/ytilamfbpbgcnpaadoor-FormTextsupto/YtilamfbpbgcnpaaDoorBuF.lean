/- Texts of one proof, laid behind one another. -/
import Derived.Test.YtilamfbpbgcnpaaDoorRowW
import Derived.Test.YtilamfbpbgcnpaaDoorUtfP
import Derived.Handy
/- The walks of single signs: is it one, its bytes (the program's and the document's); ints held against each other. -/
namespace Go.Proofs.YtilamfbpbgcnpaaDoor
open Go.RowKit
set_option linter.unusedVariables false
set_option maxRecDepth 20000
theorem ret_bool {a b : Bool} (h : a = b) : Ending.returned (.bool a) = .returned (.bool b) := by rw [h]
theorem isS_no {c : Int} (h : ¬ (0 ≤ c ∧ c ≤ 1114111 ∧ (c < 55296 ∨ 57343 < c))) : isS c = false := by simp only [isS, decide_eq_false_iff_not]; exact h
theorem scalar_calls (c : Int) (w : World) : Calls Tryd.prog 75 #[.int .i64 c] w fun e w' => e = .returned (.bool (isS c)) ∧ w' = w := by
  have hc : c < 0 ∨ (0 ≤ c ∧ c < 55296) ∨ (55296 ≤ c ∧ c ≤ 57343) ∨ (57343 < c ∧ c ≤ 1114111) ∨ 1114111 < c := by omega
  rcases hc with g | ⟨g1, g2⟩ | ⟨g1, g2⟩ | ⟨g1, g2⟩ | g
  all_goals
    go_enter Tryd.func75, Tryd.ntmps75
    go_wp2
    go_ret
    refine ⟨ret_bool ?_, rfl⟩
    by_cases hs : 0 ≤ c ∧ c ≤ 1114111 ∧ (c < 55296 ∨ 57343 < c)
    · have q := isS_iff.2 hs
      first | exact q.symm | (exfalso; omega) | (rw [q]; simp; done) | (rw [q]; simp; omega)
    · have q := isS_no hs
      first | exact q.symm | (exfalso; omega) | (rw [q]; simp; done) | (rw [q]; simp; omega)
theorem rscalar_calls (c : Int) (w : World) : Calls Tryd.prog 53 #[.int .i64 c] w fun e w' => e = .returned (.bool (isS c)) ∧ w' = w := by
  have hc : c < 0 ∨ (0 ≤ c ∧ c < 55296) ∨ (55296 ≤ c ∧ c ≤ 57343) ∨ (57343 < c ∧ c ≤ 1114111) ∨ 1114111 < c := by omega
  rcases hc with g | ⟨g1, g2⟩ | ⟨g1, g2⟩ | ⟨g1, g2⟩ | g
  all_goals
    go_enter Tryd.func53, Tryd.ntmps53
    go_wp2
    go_ret
    refine ⟨ret_bool ?_, rfl⟩
    by_cases hs : 0 ≤ c ∧ c ≤ 1114111 ∧ (c < 55296 ∨ 57343 < c)
    · have q := isS_iff.2 hs
      first | exact q.symm | (exfalso; omega) | (rw [q]; simp; done) | (rw [q]; simp; omega)
    · have q := isS_no hs
      first | exact q.symm | (exfalso; omega) | (rw [q]; simp; done) | (rw [q]; simp; omega)
theorem i64_or (a b : Nat) (ha : a < 2 ^ 63) (hb : b < 2 ^ 63) : bits .or .i64 (a : Int) (b : Int) = ((a ||| b : Nat) : Int) :=
  (bits_nat .i64 63 (by decide) (fun n h0 h1 => by rw [IntKind.wrap_i64]; omega) a b ha hb).2
theorem i64_and (a b : Nat) (ha : a < 2 ^ 63) (hb : b < 2 ^ 63) : bits .and .i64 (a : Int) (b : Int) = ((a &&& b : Nat) : Int) :=
  (bits_nat .i64 63 (by decide) (fun n h0 h1 => by rw [IntKind.wrap_i64]; omega) a b ha hb).1
theorem low6 (c : Nat) (h : c < 2 ^ 63) : bits .and .i64 (c : Int) 63 = ((c % 64 : Nat) : Int) := by
  rw [show (63 : Int) = ((63 : Nat) : Int) from rfl, i64_and c 63 h (by decide), Nat.and_two_pow_sub_one_eq_mod c 6]
/-- A mark above bits that are lower. -/
theorem or_mark (m p k : Nat) (q : Nat) (hm : m = 2 ^ k * q) (hp : p < 2 ^ k) : m ||| p = m + p := by subst hm; exact (Nat.two_pow_add_eq_or_of_lt hp q).symm
theorem u8mark (m p k q : Nat) (hm : m = 2 ^ k * q) (hp : p < 2 ^ k) (h : m + p < 256) : bits .or .u8 (m : Int) (p : Int) = ((b8 (m + p)).toNat : Int) := by
  rw [u8_or_nat m p (by omega) (by omega), or_mark m p k q hm hp, b8_nat _ h]
theorem i64mark (m p k q : Nat) (hm : m = 2 ^ k * q) (hp : p < 2 ^ k) (h : m + p < 256) : bits .or .i64 (m : Int) (p : Int) = ((b8 (m + p)).toNat : Int) := by
  rw [i64_or m p (by omega) (by omega), or_mark m p k q hm hp, b8_nat _ h]
theorem later_calls (c : Nat) (w : World) (h : c < 2 ^ 63) : Calls Tryd.prog 91 #[.int .i64 (c : Int)] w fun e w' => e = .returned (.int .u8 ((b8 (128 + c % 64)).toNat : Int)) ∧ w' = w := by
  have e1 := low6 c h
  have hl : c % 64 < 64 := Nat.mod_lt _ (by decide)
  have e2 := u8mark 128 (c % 64) 6 2 rfl hl (by omega)
  generalize c % 64 = m at *
  generalize b8 (128 + m) = x at *
  rw [show ((128 : Nat) : Int) = 128 from rfl] at e2
  go_enter Tryd.func91, Tryd.ntmps91
  go_wp2
  go_ret
  exact ⟨rfl, rfl⟩

theorem enc1 {c : Nat} (h : c < 128) : encN c = [b8 c] := by unfold encN; rw [if_pos h]
theorem enc2 {c : Nat} (h1 : ¬ c < 128) (h : c < 2048) : encN c = [b8 (192 + c / 64), b8 (128 + c % 64)] := by unfold encN; rw [if_neg h1, if_pos h]
theorem enc3 {c : Nat} (h1 : ¬ c < 2048) (h : c < 65536) : encN c = [b8 (224 + c / 4096), b8 (128 + c / 64 % 64), b8 (128 + c % 64)] := by unfold encN; rw [if_neg (by omega), if_neg h1, if_pos h]
theorem enc4 {c : Nat} (h : ¬ c < 65536) : encN c = [b8 (240 + c / 262144), b8 (128 + c / 4096 % 64), b8 (128 + c / 64 % 64), b8 (128 + c % 64)] := by unfold encN; rw [if_neg (by omega), if_neg (by omega), if_neg h]
set_option maxHeartbeats 1000000 in
theorem appendSign_calls (v : Value) (xs : List UInt8) (c : Nat) (w : World) (base : Nat) (ho : BOwn w base v xs) (hb : base ≤ w.heap.size) (hl : xs.length ≤ 500000) (hc : c ≤ 1114111) :
    Calls Tryd.prog 76 #[v, .int .i64 (c : Int)] w fun e w' => (∃ v', e = .returned v' ∧ BOwn w' base v' (xs ++ encN c)) ∧ Below base w w' := by
  by_cases h1 : c < 128
  · rw [enc1 h1]
    have e0 := b8_nat c (by omega)
    generalize b8 c = x at *
    obtain ⟨v', w', hr, ho', hg⟩ := append_run (ho.alloc (.cells #[.int .u8 (x.toNat : Int)] 5)) (Row.lit fb w [x] 5 (0, 0) (by simp)) (by simp; omega) (by simp; omega)
    have HO := hid ho'
    have HB := hid (((Below.refl base w).alloc hb _).grown hg (by simp; omega) (Own.lt ho))
    clear ho' hg ho
    rw [e0] at hr
    have g1 : (c : Int) < 128 := by omega
    clear e0 hc h1 hb hl
    go_enter Tryd.func76, Tryd.ntmps76
    go_wp2_with (at_builtin; go_must (refine wpList_append_run hr rfl _ _ rfl rfl rfl rfl ?_))
    go_ret
    exact ⟨⟨_, rfl, HO.out⟩, HB.out⟩
  · by_cases h2 : c < 2048
    · rw [enc2 h1 h2]
      obtain ⟨p1, q1⟩ : ∃ p : Nat, p = c / 64 := ⟨_, rfl⟩
      have d1 : (c : Int) / 64 = (p1 : Int) := by omega
      have b1 : p1 < 32 := by omega
      have m1 := u8mark 192 p1 6 3 rfl (by omega) (by omega)
      rw [show ((192 : Nat) : Int) = 192 from rfl] at m1
      rw [← q1]
      clear q1
      have HL := hid (later_calls c · (by omega))
      generalize b8 (192 + p1) = x0 at *
      generalize b8 (128 + c % 64) = x1 at *
      obtain ⟨v', w', hr, ho', hg⟩ := append_run (ho.alloc (.cells #[.int .u8 (x0.toNat : Int), .int .u8 (x1.toNat : Int)] 5)) (Row.lit fb w [x0, x1] 5 (0, 0) (by simp)) (by simp; omega) (by simp; omega)
      have HO := hid ho'
      have HB := hid (((Below.refl base w).alloc hb _).grown hg (by simp; omega) (Own.lt ho))
      have g1 : ¬ (c : Int) < 128 := by omega
      have g2 : (c : Int) < 2048 := by omega
      clear ho' hg ho hc h1 h2 hb hl
      go_enter Tryd.func76, Tryd.ntmps76
      go_wp2_with fail
      refine (HL.out _).mono ?_
      rintro e w1 ⟨rfl, rfl⟩
      go_wp2_with (at_builtin; go_must (refine wpList_append_run hr rfl _ _ rfl rfl rfl rfl ?_))
      go_ret
      exact ⟨⟨_, rfl, HO.out⟩, HB.out⟩
    · by_cases h3 : c < 65536
      · rw [enc3 h2 h3]
        obtain ⟨p1, q1⟩ : ∃ p : Nat, p = c / 64 := ⟨_, rfl⟩
        obtain ⟨p2, q2⟩ : ∃ p : Nat, p = c / 4096 := ⟨_, rfl⟩
        have d1 : (c : Int) / 64 = (p1 : Int) := by omega
        have d2 : (c : Int) / 4096 = (p2 : Int) := by omega
        have b1 : p1 < 1024 := by omega
        have b2 : p2 < 16 := by omega
        have m1 := u8mark 224 p2 5 7 rfl (by omega) (by omega)
        rw [show ((224 : Nat) : Int) = 224 from rfl] at m1
        rw [← q1, ← q2]
        clear q1 q2
        have HL := hid (later_calls c · (by omega))
        have HL1 := hid (later_calls p1 · (by omega))
        generalize b8 (224 + p2) = x0 at *
        generalize b8 (128 + p1 % 64) = x1 at *
        generalize b8 (128 + c % 64) = x2 at *
        obtain ⟨v', w', hr, ho', hg⟩ := append_run (ho.alloc (.cells #[.int .u8 (x0.toNat : Int), .int .u8 (x1.toNat : Int), .int .u8 (x2.toNat : Int)] 5)) (Row.lit fb w [x0, x1, x2] 5 (0, 0) (by simp)) (by simp; omega) (by simp; omega)
        have HO := hid ho'
        have HB := hid (((Below.refl base w).alloc hb _).grown hg (by simp; omega) (Own.lt ho))
        have g1 : ¬ (c : Int) < 128 := by omega
        have g2 : ¬ (c : Int) < 2048 := by omega
        have g3 : (c : Int) < 65536 := by omega
        clear ho' hg ho hc h1 h2 h3 hb hl
        go_enter Tryd.func76, Tryd.ntmps76
        go_wp2_with fail
        refine (HL1.out _).mono ?_
        rintro e w1 ⟨rfl, rfl⟩
        go_wp2_with fail
        refine (HL.out _).mono ?_
        rintro e w1 ⟨rfl, rfl⟩
        go_wp2_with (at_builtin; go_must (refine wpList_append_run hr rfl _ _ rfl rfl rfl rfl ?_))
        go_ret
        exact ⟨⟨_, rfl, HO.out⟩, HB.out⟩
      · rw [enc4 h3]
        obtain ⟨p1, q1⟩ : ∃ p : Nat, p = c / 64 := ⟨_, rfl⟩
        obtain ⟨p2, q2⟩ : ∃ p : Nat, p = c / 4096 := ⟨_, rfl⟩
        obtain ⟨p3, q3⟩ : ∃ p : Nat, p = c / 262144 := ⟨_, rfl⟩
        have d1 : (c : Int) / 64 = (p1 : Int) := by omega
        have d2 : (c : Int) / 4096 = (p2 : Int) := by omega
        have d3 : (c : Int) / 262144 = (p3 : Int) := by omega
        have b1 : p1 < 65536 := by omega
        have b2 : p2 < 65536 := by omega
        have b3 : p3 < 5 := by omega
        have m1 := u8mark 240 p3 4 15 rfl (by omega) (by omega)
        rw [show ((240 : Nat) : Int) = 240 from rfl] at m1
        rw [← q1, ← q2, ← q3]
        clear q1 q2 q3
        have HL := hid (later_calls c · (by omega))
        have HL1 := hid (later_calls p1 · (by omega))
        have HL2 := hid (later_calls p2 · (by omega))
        generalize b8 (240 + p3) = x0 at *
        generalize b8 (128 + p2 % 64) = x1 at *
        generalize b8 (128 + p1 % 64) = x2 at *
        generalize b8 (128 + c % 64) = x3 at *
        obtain ⟨v', w', hr, ho', hg⟩ := append_run (ho.alloc (.cells #[.int .u8 (x0.toNat : Int), .int .u8 (x1.toNat : Int), .int .u8 (x2.toNat : Int), .int .u8 (x3.toNat : Int)] 5)) (Row.lit fb w [x0, x1, x2, x3] 5 (0, 0) (by simp)) (by simp; omega) (by simp; omega)
        have HO := hid ho'
        have HB := hid (((Below.refl base w).alloc hb _).grown hg (by simp; omega) (Own.lt ho))
        have g1 : ¬ (c : Int) < 128 := by omega
        have g2 : ¬ (c : Int) < 2048 := by omega
        have g3 : ¬ (c : Int) < 65536 := by omega
        clear ho' hg ho hc h1 h2 h3 hb hl
        go_enter Tryd.func76, Tryd.ntmps76
        go_wp2_with fail
        refine (HL2.out _).mono ?_
        rintro e w1 ⟨rfl, rfl⟩
        go_wp2_with fail
        refine (HL1.out _).mono ?_
        rintro e w1 ⟨rfl, rfl⟩
        go_wp2_with fail
        refine (HL.out _).mono ?_
        rintro e w1 ⟨rfl, rfl⟩
        go_wp2_with (at_builtin; go_must (refine wpList_append_run hr rfl _ _ rfl rfl rfl rfl ?_))
        go_ret
        exact ⟨⟨_, rfl, HO.out⟩, HB.out⟩
end Go.Proofs.YtilamfbpbgcnpaaDoor
/- The walks of the readers of one sign: starting, next (the program's), one (the document's). -/
namespace Go.Proofs.YtilamfbpbgcnpaaDoor
open Go.RowKit
set_option linter.unusedVariables false
set_option maxRecDepth 20000
/-- What starting answers. -/
def StPost (x : Nat) (w : World) (e : Ending) (w' : World) : Prop :=
  (match st x with
    | none => e = .returned (.tuple #[.agg #[.int .i64 0, .int .i64 0, .int .u8 0, .int .u8 0], .bool false])
    | some (c, n, lo, hi) => e = .returned (.tuple #[.agg #[.int .i64 (c : Int), .int .i64 (n : Int), .int .u8 (lo : Int), .int .u8 (hi : Int)], .bool true])) ∧ Below w.heap.size w w'
theorem StPost.yes {x c n lo hi : Nat} {w w' : World} {e : Ending} (h : st x = some (c, n, lo, hi)) (he : e = .returned (.tuple #[.agg #[.int .i64 (c : Int), .int .i64 (n : Int), .int .u8 (lo : Int), .int .u8 (hi : Int)], .bool true])) (hb : Below w.heap.size w w') : StPost x w e w' := by
  unfold StPost; rw [h]; exact ⟨he, hb⟩
theorem StPost.no {x : Nat} {w w' : World} (h : st x = none) (hb : Below w.heap.size w w') : StPost x w (.returned (.tuple #[.agg #[.int .i64 0, .int .i64 0, .int .u8 0, .int .u8 0], .bool false])) w' := by
  unfold StPost; rw [h]; exact ⟨rfl, hb⟩
theorem StPost.of_no {x : Nat} {w w' : World} {e : Ending} (h : st x = none) (hp : StPost x w e w') : e = .returned (.tuple #[.agg #[.int .i64 0, .int .i64 0, .int .u8 0, .int .u8 0], .bool false]) ∧ Below w.heap.size w w' := by
  unfold StPost at hp; rw [h] at hp; exact hp
theorem StPost.of_yes {x c n lo hi : Nat} {w w' : World} {e : Ending} (h : st x = some (c, n, lo, hi)) (hp : StPost x w e w') : e = .returned (.tuple #[.agg #[.int .i64 (c : Int), .int .i64 (n : Int), .int .u8 (lo : Int), .int .u8 (hi : Int)], .bool true]) ∧ Below w.heap.size w w' := by
  unfold StPost at hp; rw [h] at hp; exact hp
theorem u8mask (x k : Nat) (hx : x < 256) (hk : k ≤ 8) : bits .and .u8 (x : Int) ((2 ^ k - 1 : Nat) : Int) = ((x % 2 ^ k : Nat) : Int) := by
  have : 2 ^ k ≤ 2 ^ 8 := Nat.pow_le_pow_right (by decide) hk
  rw [u8_and_nat x (2 ^ k - 1) hx (by omega), Nat.and_two_pow_sub_one_eq_mod]
theorem i64mask (x k : Nat) (hx : x < 256) (hk : k ≤ 8) : bits .and .i64 (x : Int) ((2 ^ k - 1 : Nat) : Int) = ((x % 2 ^ k : Nat) : Int) := by
  have : 2 ^ k ≤ 2 ^ 8 := Nat.pow_le_pow_right (by decide) hk
  rw [i64_and x (2 ^ k - 1) (by omega) (by omega), Nat.and_two_pow_sub_one_eq_mod]
theorem st_a {x : Nat} (h : x < 128) : st x = some (x, 0, 128, 191) := by unfold st; rw [if_pos h]
theorem st_b {x : Nat} (h1 : ¬ x < 128) (h : x < 194) : st x = none := by unfold st; rw [if_neg h1, if_pos h]
theorem st_c {x : Nat} (h1 : ¬ x < 194) (h : x < 224) : st x = some (x - 192, 1, 128, 191) := by unfold st; rw [if_neg (by omega), if_neg h1, if_pos h]
theorem st_d {x : Nat} (h1 : ¬ x < 224) (h : x < 240) : st x = some (x - 224, 2, if x = 224 then 160 else 128, if x = 237 then 159 else 191) := by unfold st; rw [if_neg (by omega), if_neg (by omega), if_neg h1, if_pos h]
theorem st_e {x : Nat} (h1 : ¬ x < 240) (h : x < 245) : st x = some (x - 240, 3, if x = 240 then 144 else 128, if x = 244 then 143 else 191) := by unfold st; rw [if_neg (by omega), if_neg (by omega), if_neg (by omega), if_neg h1, if_pos h]
theorem st_f {x : Nat} (h1 : ¬ x < 245) : st x = none := by unfold st; rw [if_neg (by omega), if_neg (by omega), if_neg (by omega), if_neg (by omega), if_neg h1]
set_option maxRecDepth 20000 in
set_option maxHeartbeats 1000000 in
theorem starting_a (x : Nat) (w : World) (h1 : 0 ≤ x) (h2 : x ≤ 127) : Calls Tryd.prog 92 #[.int .u8 (x : Int)] w fun e w' => StPost x w e w' := by
  have HS : Hid (st x = some (x, 0, 128, 191)) := st_a (by omega)
  have g0 : (0 : Int) ≤ (x : Int) := by omega
  have g1 : (x : Int) ≤ 127 := by omega
  have t224 : ((x : Int) == 224) = false := by rw [beq_eq_false_iff_ne]; omega
  have t237 : ((x : Int) == 237) = false := by rw [beq_eq_false_iff_ne]; omega
  have t240 : ((x : Int) == 240) = false := by rw [beq_eq_false_iff_ne]; omega
  have t244 : ((x : Int) == 244) = false := by rw [beq_eq_false_iff_ne]; omega
  clear h1 h2
  go_enter Tryd.func92, Tryd.ntmps92
  go_wp2
  go_returns
  exact StPost.yes HS.out rfl (((Below.refl _ _).alloc (Nat.le_refl _) _).alloc (by simp) _)
set_option maxRecDepth 20000 in
set_option maxHeartbeats 1000000 in
theorem starting_b (x : Nat) (w : World) (h1 : 128 ≤ x) (h2 : x ≤ 193) : Calls Tryd.prog 92 #[.int .u8 (x : Int)] w fun e w' => StPost x w e w' := by
  have HS : Hid (st x = none) := st_b (by omega) (by omega)
  have g0 : (128 : Int) ≤ (x : Int) := by omega
  have g1 : (x : Int) ≤ 193 := by omega
  have t224 : ((x : Int) == 224) = false := by rw [beq_eq_false_iff_ne]; omega
  have t237 : ((x : Int) == 237) = false := by rw [beq_eq_false_iff_ne]; omega
  have t240 : ((x : Int) == 240) = false := by rw [beq_eq_false_iff_ne]; omega
  have t244 : ((x : Int) == 244) = false := by rw [beq_eq_false_iff_ne]; omega
  clear h1 h2
  go_enter Tryd.func92, Tryd.ntmps92
  go_wp2
  go_returns
  exact StPost.no HS.out (((Below.refl _ _).alloc (Nat.le_refl _) _).alloc (by simp) _)
set_option maxRecDepth 20000 in
set_option maxHeartbeats 1000000 in
theorem starting_c (x : Nat) (w : World) (h1 : 194 ≤ x) (h2 : x ≤ 223) : Calls Tryd.prog 92 #[.int .u8 (x : Int)] w fun e w' => StPost x w e w' := by
  obtain ⟨r, hr⟩ : ∃ r : Nat, r = x - 192 := ⟨_, rfl⟩
  have e1 := u8mask x 5 (by omega) (by decide)
  rw [show ((2 ^ 5 - 1 : Nat) : Int) = 31 from rfl, show x % 2 ^ 5 = r by omega] at e1
  have HS : Hid (st x = some (r, 1, 128, 191)) := by rw [hr]; exact st_c (by omega) (by omega)
  have r0 : (r : Int) < 64 := by omega
  clear hr
  have g0 : (194 : Int) ≤ (x : Int) := by omega
  have g1 : (x : Int) ≤ 223 := by omega
  have t224 : ((x : Int) == 224) = false := by rw [beq_eq_false_iff_ne]; omega
  have t237 : ((x : Int) == 237) = false := by rw [beq_eq_false_iff_ne]; omega
  have t240 : ((x : Int) == 240) = false := by rw [beq_eq_false_iff_ne]; omega
  have t244 : ((x : Int) == 244) = false := by rw [beq_eq_false_iff_ne]; omega
  clear h1 h2
  go_enter Tryd.func92, Tryd.ntmps92
  go_wp2
  go_returns
  exact StPost.yes HS.out rfl (((Below.refl _ _).alloc (Nat.le_refl _) _).alloc (by simp) _)
set_option maxRecDepth 20000 in
set_option maxHeartbeats 1000000 in
theorem starting_d1 (x : Nat) (w : World) (h1 : 224 ≤ x) (h2 : x ≤ 224) : Calls Tryd.prog 92 #[.int .u8 (x : Int)] w fun e w' => StPost x w e w' := by
  obtain ⟨r, hr⟩ : ∃ r : Nat, r = x - 224 := ⟨_, rfl⟩
  have e1 := u8mask x 4 (by omega) (by decide)
  rw [show ((2 ^ 4 - 1 : Nat) : Int) = 15 from rfl, show x % 2 ^ 4 = r by omega] at e1
  have HS : Hid (st x = some (r, 2, 160, 191)) := by
    show st x = _
    rw [st_d (by omega) (by omega), if_pos (by omega), if_neg (by omega), hr]
  have r0 : (r : Int) < 64 := by omega
  clear hr
  have g0 : (224 : Int) ≤ (x : Int) := by omega
  have g1 : (x : Int) ≤ 224 := by omega
  have t224 : ((x : Int) == 224) = true := by rw [beq_iff_eq]; omega
  have t237 : ((x : Int) == 237) = false := by rw [beq_eq_false_iff_ne]; omega
  have t240 : ((x : Int) == 240) = false := by rw [beq_eq_false_iff_ne]; omega
  have t244 : ((x : Int) == 244) = false := by rw [beq_eq_false_iff_ne]; omega
  clear h1 h2
  go_enter Tryd.func92, Tryd.ntmps92
  go_wp2
  go_returns
  exact StPost.yes HS.out rfl (((Below.refl _ _).alloc (Nat.le_refl _) _).alloc (by simp) _)
set_option maxRecDepth 20000 in
set_option maxHeartbeats 1000000 in
theorem starting_d2 (x : Nat) (w : World) (h1 : 225 ≤ x) (h2 : x ≤ 236) : Calls Tryd.prog 92 #[.int .u8 (x : Int)] w fun e w' => StPost x w e w' := by
  obtain ⟨r, hr⟩ : ∃ r : Nat, r = x - 224 := ⟨_, rfl⟩
  have e1 := u8mask x 4 (by omega) (by decide)
  rw [show ((2 ^ 4 - 1 : Nat) : Int) = 15 from rfl, show x % 2 ^ 4 = r by omega] at e1
  have HS : Hid (st x = some (r, 2, 128, 191)) := by
    show st x = _
    rw [st_d (by omega) (by omega), if_neg (by omega), if_neg (by omega), hr]
  have r0 : (r : Int) < 64 := by omega
  clear hr
  have g0 : (225 : Int) ≤ (x : Int) := by omega
  have g1 : (x : Int) ≤ 236 := by omega
  have t224 : ((x : Int) == 224) = false := by rw [beq_eq_false_iff_ne]; omega
  have t237 : ((x : Int) == 237) = false := by rw [beq_eq_false_iff_ne]; omega
  have t240 : ((x : Int) == 240) = false := by rw [beq_eq_false_iff_ne]; omega
  have t244 : ((x : Int) == 244) = false := by rw [beq_eq_false_iff_ne]; omega
  clear h1 h2
  go_enter Tryd.func92, Tryd.ntmps92
  go_wp2
  go_returns
  exact StPost.yes HS.out rfl (((Below.refl _ _).alloc (Nat.le_refl _) _).alloc (by simp) _)
set_option maxRecDepth 20000 in
set_option maxHeartbeats 1000000 in
theorem starting_d3 (x : Nat) (w : World) (h1 : 237 ≤ x) (h2 : x ≤ 237) : Calls Tryd.prog 92 #[.int .u8 (x : Int)] w fun e w' => StPost x w e w' := by
  obtain ⟨r, hr⟩ : ∃ r : Nat, r = x - 224 := ⟨_, rfl⟩
  have e1 := u8mask x 4 (by omega) (by decide)
  rw [show ((2 ^ 4 - 1 : Nat) : Int) = 15 from rfl, show x % 2 ^ 4 = r by omega] at e1
  have HS : Hid (st x = some (r, 2, 128, 159)) := by
    show st x = _
    rw [st_d (by omega) (by omega), if_neg (by omega), if_pos (by omega), hr]
  have r0 : (r : Int) < 64 := by omega
  clear hr
  have g0 : (237 : Int) ≤ (x : Int) := by omega
  have g1 : (x : Int) ≤ 237 := by omega
  have t224 : ((x : Int) == 224) = false := by rw [beq_eq_false_iff_ne]; omega
  have t237 : ((x : Int) == 237) = true := by rw [beq_iff_eq]; omega
  have t240 : ((x : Int) == 240) = false := by rw [beq_eq_false_iff_ne]; omega
  have t244 : ((x : Int) == 244) = false := by rw [beq_eq_false_iff_ne]; omega
  clear h1 h2
  go_enter Tryd.func92, Tryd.ntmps92
  go_wp2
  go_returns
  exact StPost.yes HS.out rfl (((Below.refl _ _).alloc (Nat.le_refl _) _).alloc (by simp) _)
set_option maxRecDepth 20000 in
set_option maxHeartbeats 1000000 in
theorem starting_d4 (x : Nat) (w : World) (h1 : 238 ≤ x) (h2 : x ≤ 239) : Calls Tryd.prog 92 #[.int .u8 (x : Int)] w fun e w' => StPost x w e w' := by
  obtain ⟨r, hr⟩ : ∃ r : Nat, r = x - 224 := ⟨_, rfl⟩
  have e1 := u8mask x 4 (by omega) (by decide)
  rw [show ((2 ^ 4 - 1 : Nat) : Int) = 15 from rfl, show x % 2 ^ 4 = r by omega] at e1
  have HS : Hid (st x = some (r, 2, 128, 191)) := by
    show st x = _
    rw [st_d (by omega) (by omega), if_neg (by omega), if_neg (by omega), hr]
  have r0 : (r : Int) < 64 := by omega
  clear hr
  have g0 : (238 : Int) ≤ (x : Int) := by omega
  have g1 : (x : Int) ≤ 239 := by omega
  have t224 : ((x : Int) == 224) = false := by rw [beq_eq_false_iff_ne]; omega
  have t237 : ((x : Int) == 237) = false := by rw [beq_eq_false_iff_ne]; omega
  have t240 : ((x : Int) == 240) = false := by rw [beq_eq_false_iff_ne]; omega
  have t244 : ((x : Int) == 244) = false := by rw [beq_eq_false_iff_ne]; omega
  clear h1 h2
  go_enter Tryd.func92, Tryd.ntmps92
  go_wp2
  go_returns
  exact StPost.yes HS.out rfl (((Below.refl _ _).alloc (Nat.le_refl _) _).alloc (by simp) _)
set_option maxRecDepth 20000 in
set_option maxHeartbeats 1000000 in
theorem starting_e1 (x : Nat) (w : World) (h1 : 240 ≤ x) (h2 : x ≤ 240) : Calls Tryd.prog 92 #[.int .u8 (x : Int)] w fun e w' => StPost x w e w' := by
  obtain ⟨r, hr⟩ : ∃ r : Nat, r = x - 240 := ⟨_, rfl⟩
  have e1 := u8mask x 3 (by omega) (by decide)
  rw [show ((2 ^ 3 - 1 : Nat) : Int) = 7 from rfl, show x % 2 ^ 3 = r by omega] at e1
  have HS : Hid (st x = some (r, 3, 144, 191)) := by
    show st x = _
    rw [st_e (by omega) (by omega), if_pos (by omega), if_neg (by omega), hr]
  have r0 : (r : Int) < 64 := by omega
  clear hr
  have g0 : (240 : Int) ≤ (x : Int) := by omega
  have g1 : (x : Int) ≤ 240 := by omega
  have t224 : ((x : Int) == 224) = false := by rw [beq_eq_false_iff_ne]; omega
  have t237 : ((x : Int) == 237) = false := by rw [beq_eq_false_iff_ne]; omega
  have t240 : ((x : Int) == 240) = true := by rw [beq_iff_eq]; omega
  have t244 : ((x : Int) == 244) = false := by rw [beq_eq_false_iff_ne]; omega
  clear h1 h2
  go_enter Tryd.func92, Tryd.ntmps92
  go_wp2
  go_returns
  exact StPost.yes HS.out rfl (((Below.refl _ _).alloc (Nat.le_refl _) _).alloc (by simp) _)
set_option maxRecDepth 20000 in
set_option maxHeartbeats 1000000 in
theorem starting_e2 (x : Nat) (w : World) (h1 : 241 ≤ x) (h2 : x ≤ 243) : Calls Tryd.prog 92 #[.int .u8 (x : Int)] w fun e w' => StPost x w e w' := by
  obtain ⟨r, hr⟩ : ∃ r : Nat, r = x - 240 := ⟨_, rfl⟩
  have e1 := u8mask x 3 (by omega) (by decide)
  rw [show ((2 ^ 3 - 1 : Nat) : Int) = 7 from rfl, show x % 2 ^ 3 = r by omega] at e1
  have HS : Hid (st x = some (r, 3, 128, 191)) := by
    show st x = _
    rw [st_e (by omega) (by omega), if_neg (by omega), if_neg (by omega), hr]
  have r0 : (r : Int) < 64 := by omega
  clear hr
  have g0 : (241 : Int) ≤ (x : Int) := by omega
  have g1 : (x : Int) ≤ 243 := by omega
  have t224 : ((x : Int) == 224) = false := by rw [beq_eq_false_iff_ne]; omega
  have t237 : ((x : Int) == 237) = false := by rw [beq_eq_false_iff_ne]; omega
  have t240 : ((x : Int) == 240) = false := by rw [beq_eq_false_iff_ne]; omega
  have t244 : ((x : Int) == 244) = false := by rw [beq_eq_false_iff_ne]; omega
  clear h1 h2
  go_enter Tryd.func92, Tryd.ntmps92
  go_wp2
  go_returns
  exact StPost.yes HS.out rfl (((Below.refl _ _).alloc (Nat.le_refl _) _).alloc (by simp) _)
set_option maxRecDepth 20000 in
set_option maxHeartbeats 1000000 in
theorem starting_e3 (x : Nat) (w : World) (h1 : 244 ≤ x) (h2 : x ≤ 244) : Calls Tryd.prog 92 #[.int .u8 (x : Int)] w fun e w' => StPost x w e w' := by
  obtain ⟨r, hr⟩ : ∃ r : Nat, r = x - 240 := ⟨_, rfl⟩
  have e1 := u8mask x 3 (by omega) (by decide)
  rw [show ((2 ^ 3 - 1 : Nat) : Int) = 7 from rfl, show x % 2 ^ 3 = r by omega] at e1
  have HS : Hid (st x = some (r, 3, 128, 143)) := by
    show st x = _
    rw [st_e (by omega) (by omega), if_neg (by omega), if_pos (by omega), hr]
  have r0 : (r : Int) < 64 := by omega
  clear hr
  have g0 : (244 : Int) ≤ (x : Int) := by omega
  have g1 : (x : Int) ≤ 244 := by omega
  have t224 : ((x : Int) == 224) = false := by rw [beq_eq_false_iff_ne]; omega
  have t237 : ((x : Int) == 237) = false := by rw [beq_eq_false_iff_ne]; omega
  have t240 : ((x : Int) == 240) = false := by rw [beq_eq_false_iff_ne]; omega
  have t244 : ((x : Int) == 244) = true := by rw [beq_iff_eq]; omega
  clear h1 h2
  go_enter Tryd.func92, Tryd.ntmps92
  go_wp2
  go_returns
  exact StPost.yes HS.out rfl (((Below.refl _ _).alloc (Nat.le_refl _) _).alloc (by simp) _)
set_option maxRecDepth 20000 in
set_option maxHeartbeats 1000000 in
theorem starting_f (x : Nat) (w : World) (h1 : 245 ≤ x) (h2 : x ≤ 255) : Calls Tryd.prog 92 #[.int .u8 (x : Int)] w fun e w' => StPost x w e w' := by
  have HS : Hid (st x = none) := st_f (by omega)
  have g0 : (245 : Int) ≤ (x : Int) := by omega
  have g1 : (x : Int) ≤ 255 := by omega
  have t224 : ((x : Int) == 224) = false := by rw [beq_eq_false_iff_ne]; omega
  have t237 : ((x : Int) == 237) = false := by rw [beq_eq_false_iff_ne]; omega
  have t240 : ((x : Int) == 240) = false := by rw [beq_eq_false_iff_ne]; omega
  have t244 : ((x : Int) == 244) = false := by rw [beq_eq_false_iff_ne]; omega
  clear h1 h2
  go_enter Tryd.func92, Tryd.ntmps92
  go_wp2
  go_returns
  exact StPost.no HS.out (((Below.refl _ _).alloc (Nat.le_refl _) _).alloc (by simp) _)
theorem starting_calls (x : Nat) (w : World) (hx : x < 256) : Calls Tryd.prog 92 #[.int .u8 (x : Int)] w fun e w' => StPost x w e w' := by
  rcases (by omega : x ≤ 127 ∨ (128 ≤ x ∧ x ≤ 193) ∨ (194 ≤ x ∧ x ≤ 223) ∨ (224 ≤ x ∧ x ≤ 224) ∨ (225 ≤ x ∧ x ≤ 236) ∨ (237 ≤ x ∧ x ≤ 237) ∨ (238 ≤ x ∧ x ≤ 239) ∨ (240 ≤ x ∧ x ≤ 240) ∨ (241 ≤ x ∧ x ≤ 243) ∨ (244 ≤ x ∧ x ≤ 244) ∨ (245 ≤ x ∧ x ≤ 255)) with h | ⟨h1, h2⟩ | ⟨h1, h2⟩ | ⟨h1, h2⟩ | ⟨h1, h2⟩ | ⟨h1, h2⟩ | ⟨h1, h2⟩ | ⟨h1, h2⟩ | ⟨h1, h2⟩ | ⟨h1, h2⟩ | ⟨h1, h2⟩
  · exact starting_a x w (Nat.zero_le _) h
  · exact starting_b x w h1 h2
  · exact starting_c x w h1 h2
  · exact starting_d1 x w h1 h2
  · exact starting_d2 x w h1 h2
  · exact starting_d3 x w h1 h2
  · exact starting_d4 x w h1 h2
  · exact starting_e1 x w h1 h2
  · exact starting_e2 x w h1 h2
  · exact starting_e3 x w h1 h2
  · exact starting_f x w h1 h2
end Go.Proofs.YtilamfbpbgcnpaaDoor
/- The walk of next: what bytes begin with. -/
namespace Go.Proofs.YtilamfbpbgcnpaaDoor
open Go.RowKit
set_option linter.unusedVariables false
set_option maxRecDepth 20000
/-- What the reader of one sign answers. -/
def NextPost (l : List UInt8) (w : World) (e : Ending) (w' : World) : Prop :=
  e = .returned (.tuple #[.int .i64 ((nextN l).1 : Int), .int .i64 ((nextN l).2.1 : Int), .bool (nextN l).2.2]) ∧ Below w.heap.size w w'
theorem NextPost.mk' {l : List UInt8} {w w' : World} {c k : Nat} {b : Bool} (h : nextN l = (c, k, b)) {e : Ending} (he : e = .returned (.tuple #[.int .i64 (c : Int), .int .i64 (k : Int), .bool b])) (hb : Below w.heap.size w w') : NextPost l w e w' := by
  unfold NextPost; rw [h]; exact ⟨he, hb⟩
theorem next_none (x : UInt8) (r : List UInt8) (h : st x.toNat = none) : nextN (x :: r) = (65533, 1, false) := by simp only [nextN, h]
/-- How great the number can be, by how many bytes are still to come. -/
def Room (c m : Nat) : Prop := (m = 3 → c < 8) ∧ (m = 2 → c < 512) ∧ (m = 1 → c < 32768) ∧ c < 2097152 ∧ m ≤ 3
theorem st_room {x c n lo hi : Nat} (h : st x = some (c, n, lo, hi)) (hx : x < 256) : Room c n ∧ 128 ≤ lo ∧ lo ≤ 160 ∧ 143 ≤ hi ∧ hi ≤ 191 := by
  unfold st at h
  split at h
  · simp only [Option.some.injEq, Prod.mk.injEq] at h; unfold Room; omega
  · split at h
    · cases h
    · split at h
      · simp only [Option.some.injEq, Prod.mk.injEq] at h; unfold Room; omega
      · split at h
        · simp only [Option.some.injEq, Prod.mk.injEq] at h
          obtain ⟨rfl, rfl, rfl, rfl⟩ := h
          unfold Room
          refine ⟨by omega, ?_, ?_, ?_, ?_⟩ <;> split <;> omega
        · split at h
          · simp only [Option.some.injEq, Prod.mk.injEq] at h
            obtain ⟨rfl, rfl, rfl, rfl⟩ := h
            unfold Room
            refine ⟨by omega, ?_, ?_, ?_, ?_⟩ <;> split <;> omega
          · cases h
theorem Room.step {c m r : Nat} (h : Room c (m + 1)) (hr : r < 64) : Room (c * 64 + r) m := by unfold Room at *; omega
theorem or64 (c r : Nat) (hc : c < 2097152) (hr : r < 64) : bits .or .i64 ((c : Int) * 64) (r : Int) = ((c * 64 + r : Nat) : Int) := by
  have := or_mark (c * 64) r 6 c (by omega) hr
  rw [← this, ← i64_or (c * 64) r (by omega) (by omega)]
  rw [show ((c * 64 : Nat) : Int) = (c : Int) * 64 by omega]
theorem drop_at {l : List UInt8} {i : Nat} (h : i < l.length) : l.drop i = l[i] :: l.drop (i + 1) := (List.drop_eq_getElem_cons h)
set_option maxRecDepth 20000 in
set_option maxHeartbeats 2000000 in
theorem next_calls (v : Value) (l : List UInt8) (w : World) (hv : BRow w v l) (hne : l ≠ []) (hlen : l.length ≤ 100000) :
    Calls Tryd.prog 77 #[v] w fun e w' => NextPost l w e w' := by
  obtain ⟨a, cap, rfl, h1, h2, h3⟩ := hv
  obtain ⟨b, off, rfl, hbl, hc⟩ := h3 hne
  have HC := hid hc
  have hp : 0 < l.length := List.length_pos_iff.2 hne
  have hc0 : w.cell? ⟨b, off, none⟩ = some (.int .u8 (l[0].toNat : Int)) := hc 0 hp
  have HL := hid hlen
  have hp0 : (0 : Int) < (l.length : Int) := by omega
  have hl1 : (l.length : Int) ≤ 100000 := by omega
  have HD : Hid (l = l[0] :: l.drop 1) := by
    show l = _
    have := drop_at hp
    rwa [List.drop_zero] at this
  clear h3 hc hlen h1 h2
  have HP := hid hp
  have hx := byte_lt l[0]
  have HX := hid hx
  clear hx
  cases hst : st l[0].toNat with
  | none =>
    have HE : Hid (nextN l = (65533, 1, false)) := by
      show nextN l = _
      rw [HD.out]; exact next_none _ _ hst
    have HS := hid (fun w => (starting_calls l[0].toNat w HX.out).mono fun e w' h => StPost.of_no hst h)
    clear hst hne HD
    generalize l[0].toNat = x at *
    clear hp
    go_enter Tryd.func77, Tryd.ntmps77
    go_wp2_with fail
    refine (HS.out _).mono ?_
    rintro e w1 ⟨rfl, hb⟩
    have HB := hid (hb.alloc hb.size (.cells #[.int .i64 0, .int .i64 0, .int .u8 0, .int .u8 0] 120))
    clear hb
    go_wp2_with fail
    go_ret3
    exact NextPost.mk' HE.out rfl HB.out
  | some q =>
    obtain ⟨c, n, lo, hi⟩ := q
    have HE : Hid (nextN l = goN c lo hi 1 (l.drop 1) n) := by
      show nextN l = _
      conv => lhs; rw [HD.out]
      exact next_cons _ _ hst
    obtain ⟨hroom, b1, b2, b3, b4⟩ := st_room hst HX.out
    have HS := hid (fun w => (starting_calls l[0].toNat w HX.out).mono fun e w' h => StPost.of_yes hst h)
    have HR := hid hroom
    have HBD := hid (And.intro (And.intro b1 b2) (And.intro b3 b4))
    clear hst hne HD hroom b1 b2 b3 b4
    generalize l[0].toNat = x at *
    clear hp
    go_enter Tryd.func77, Tryd.ntmps77
    go_wp2_with fail
    refine (HS.out _).mono ?_
    rintro e w1 ⟨rfl, hb⟩
    have HB := hid (hb.alloc hb.size (.cells #[.int .i64 (c : Int), .int .i64 (n : Int), .int .u8 (lo : Int), .int .u8 (hi : Int)] 120))
    clear hb
    go_wp2_with fail
    go_quiet (fail)
    have HB2 := hid (below_drewN HB.out nq)
    have hn1 : ((w1.alloc (.cells #[.int .i64 (c : Int), .int .i64 (n : Int), .int .u8 (lo : Int), .int .u8 (hi : Int)] 120)).drewN nq).cell? ⟨w1.heap.size, 1, none⟩ = some (.int .i64 (n : Int)) :=
      ((below_drewN (Below.refl (w1.heap.size + 1) _) nq).cell (p := ⟨w1.heap.size, 1, none⟩) (Nat.lt_succ_self _)).trans (by rw [World.cell?_alloc_at _ _ _ _ rfl]; rfl)
    generalize (w1.alloc (.cells #[.int .i64 (c : Int), .int .i64 (n : Int), .int .u8 (lo : Int), .int .u8 (hi : Int)] 120)).drewN nq = wx at *
    generalize w1.heap.size = B at *
    clear HB HS hc0 HX
    have hn3 : (n : Int) ≤ 3 := by have := HR.out.2.2.2.2; omega
    go_wp2_with fail
    go_loop [2, 7, 8, 9] (fun sg lo hi i => ∃ (k m c lo' hi' : Nat), k + m = n + 1 ∧ 1 ≤ k ∧ k ≤ l.length ∧ i = .int .i64 (k : Int) ∧ sg = .int .i64 (c : Int) ∧ lo = .int .u8 (lo' : Int) ∧ hi = .int .u8 (hi' : Int) ∧ nextN l = goN c lo' hi' k (l.drop k) m ∧ Room c m) (fun _ _ _ i => n + 1 - (intOf i).toNat)
    case atStart => exact ⟨1, n, c, lo, hi, by omega, Nat.le_refl _, HP.out, rfl, rfl, rfl, rfl, HE.out, HR.out⟩
    case round =>
      clear HE HR HBD
      obtain ⟨k, m, c, lo, hi, hkm, hk1, hkl, rfl, rfl, rfl, rfl, he, hr⟩ := hrel
      have HE := hid he
      have HR := hid hr
      have HK := hid (And.intro hkm (And.intro hk1 hkl))
      have c0 : (c : Int) < 2097152 := by have := hr.2.2.2.1; omega
      have k0 : (1 : Int) ≤ (k : Int) := by omega
      have k1 : (k : Int) ≤ (l.length : Int) := by omega
      clear he hr
      cases m with
      | zero =>
        have hkn : ¬ (k : Int) ≤ (n : Int) := by omega
        have HQ : Hid (k = n + 1) := by show k = n + 1; omega
        clear hkm hk1 hkl
        rw [goN] at HE
        go_wp2_with fail
        go_quiet (fail)
        have HB3 := hid (below_drewN HB2.out nq)
        generalize wx.drewN nq = wy at *
        go_wp2_with fail
        go_ret3
        exact NextPost.mk' HE.out (by rw [HQ.out]; go_num) HB3.out
      | succ m =>
        have hkn : (k : Int) ≤ (n : Int) := by omega
        by_cases hend : k = l.length
        · have t0 : ((k : Int) == (l.length : Int)) = true := by rw [beq_iff_eq]; omega
          rw [List.drop_eq_nil_of_le (by omega), goN] at HE
          clear hkm hk1 hkl hend
          go_wp2_with fail
          go_ret3
          exact NextPost.mk' HE.out rfl HB2.out
        · have hlt : k < l.length := by omega
          have t0 : ((k : Int) == (l.length : Int)) = false := by rw [beq_eq_false_iff_ne]; omega
          have k2 : (k : Int) < (l.length : Int) := by omega
          have hck : wx.cell? ⟨b, off + k, none⟩ = some (.int .u8 (l[k].toNat : Int)) := (HB2.out.cell (p := ⟨b, off + k, none⟩) hbl).trans (HC.out k hlt)
          rw [drop_at hlt] at HE
          have hx := byte_lt l[k]
          generalize l[k] = y at *
          clear hkm hk1 hkl hend hlt
          by_cases hbad : y.toNat < lo ∨ hi < y.toNat
          · rw [goN, if_pos hbad] at HE
            by_cases hb1 : y.toNat < lo
            · have t1 : (y.toNat : Int) < (lo : Int) := by omega
              clear hbad hb1 hx
              go_wp2_with fail
              go_ret3
              exact NextPost.mk' HE.out rfl HB2.out
            · have t1 : ¬ (y.toNat : Int) < (lo : Int) := by omega
              have t2 : (hi : Int) < (y.toNat : Int) := by omega
              clear hbad hb1 hx
              go_wp2_with fail
              go_ret3
              exact NextPost.mk' HE.out rfl HB2.out
          · rw [go_step hbad] at HE
            have t1 : ¬ (y.toNat : Int) < (lo : Int) := by omega
            have t2 : ¬ (hi : Int) < (y.toNat : Int) := by omega
            have e1 := u8mask y.toNat 6 hx (by decide)
            rw [show ((2 ^ 6 - 1 : Nat) : Int) = 63 from rfl, show y.toNat % 2 ^ 6 = y.toNat % 64 from rfl] at e1
            have hr6 : y.toNat % 64 < 64 := Nat.mod_lt _ (by decide)
            have e2 := or64 c (y.toNat % 64) (by omega) hr6
            have HR2 := hid (HR.out.step hr6)
            generalize y.toNat % 64 = r at *
            generalize c * 64 + r = c2 at *
            have r0 : (r : Int) < 64 := by omega
            clear hbad hx hr6
            go_wp2_with fail
            go_round
            case rel => exact ⟨k + 1, m, c2, 128, 191, by have := HK.out.1; omega, by omega, by omega, by go_num, rfl, rfl, rfl, HE.out, HR2.out⟩
            case measure => simp [intOf]; omega
end Go.Proofs.YtilamfbpbgcnpaaDoor
/- Plain facts of the readers' loops: what has been read so far. -/
namespace Go.Proofs.YtilamfbpbgcnpaaDoor
set_option linter.unusedVariables false
set_option maxRecDepth 20000
/-- Up to k o has been read, strictly; with repairs. -/
def DecAt (l : List UInt8) (o : List Int) (k : Nat) : Prop := decL l = (decL (l.drop k)).map (fun x => o ++ x) ∧ badN l = k + badN (l.drop k) ∧ o.length ≤ k
def LosAt (l : List UInt8) (o : List Int) (k : Nat) : Prop := lossyL l = o ++ lossyL (l.drop k) ∧ o.length ≤ k
theorem DecAt.start (l : List UInt8) : DecAt l [] 0 := by
  refine ⟨?_, by simp, Nat.le_refl _⟩
  rw [List.drop_zero]
  cases decL l <;> simp
theorem LosAt.start (l : List UInt8) : LosAt l [] 0 := ⟨by simp, Nat.le_refl _⟩
theorem drop_ne {l : List UInt8} {k : Nat} (h : k < l.length) : l.drop k ≠ [] := by
  intro e
  have := congrArg List.length e
  rw [List.length_drop, List.length_nil] at this
  omega
theorem DecAt.step {l : List UInt8} {o : List Int} {k c n : Nat} (h : DecAt l o k) (hk : k < l.length) (hq : nextN (l.drop k) = (c, n, true)) : DecAt l (o ++ [(c : Int)]) (k + n) := by
  have hne := drop_ne hk
  have hs := (next_size (l.drop k)).1
  rw [hq] at hs
  obtain ⟨h1, h2, h3⟩ := h
  refine ⟨?_, ?_, by rw [List.length_append]; simp only [List.length_cons, List.length_nil]; simp only at hs; omega⟩
  · rw [h1, dec_cons hne (by rw [hq]), hq, List.drop_drop]
    cases decL (l.drop (k + n)) <;> simp
  · rw [h2, bad_cons hne (by rw [hq]), hq, List.drop_drop]
    simp only; omega
theorem DecAt.fail {l : List UInt8} {o : List Int} {k c n : Nat} (h : DecAt l o k) (hk : k < l.length) (hq : nextN (l.drop k) = (c, n, false)) : decL l = none ∧ badN l = k := by
  have hne := drop_ne hk
  obtain ⟨h1, h2, h3⟩ := h
  refine ⟨?_, ?_⟩
  · rw [h1, dec_fail hne (by rw [hq])]; rfl
  · rw [h2, bad_fail hne (by rw [hq])]; rfl
theorem DecAt.done {l : List UInt8} {o : List Int} {k : Nat} (h : DecAt l o k) (hk : ¬ k < l.length) : decL l = some o := by
  rw [h.1, List.drop_eq_nil_of_le (by omega), dec_nil]; simp
theorem LosAt.step {l : List UInt8} {o : List Int} {k : Nat} (h : LosAt l o k) (hk : k < l.length) {c n : Nat} {b : Bool} (hq : nextN (l.drop k) = (c, n, b)) : LosAt l (o ++ [(c : Int)]) (k + n) := by
  have hne := drop_ne hk
  have hs := (next_size (l.drop k)).1
  rw [hq] at hs
  obtain ⟨h1, h3⟩ := h
  refine ⟨?_, by rw [List.length_append]; simp only [List.length_cons, List.length_nil]; simp only at hs; omega⟩
  rw [h1, lossy_cons hne, hq, List.drop_drop]
  simp
theorem LosAt.done {l : List UInt8} {o : List Int} {k : Nat} (h : LosAt l o k) (hk : ¬ k < l.length) : lossyL l = o := by
  rw [h.1, List.drop_eq_nil_of_le (by omega), lossy_nil, List.append_nil]
theorem next_fits {l : List UInt8} {k c n : Nat} {b : Bool} (hk : k < l.length) (hq : nextN (l.drop k) = (c, n, b)) : 1 ≤ n ∧ k + n ≤ l.length ∧ c ≤ 1114111 := by
  have hs := next_size (l.drop k)
  have h2 := hs.2 (drop_ne hk)
  have hi := isS_iff.1 (next_isS (l.drop k))
  rw [hq] at hs h2 hi
  rw [List.length_drop] at h2
  simp only at hs h2 hi
  omega
theorem next_repair {l : List UInt8} {k c n : Nat} (hq : nextN (l.drop k) = (c, n, false)) : c = 65533 := by
  have := next_bad (l.drop k) (by rw [hq])
  rw [hq] at this
  exact this
end Go.Proofs.YtilamfbpbgcnpaaDoor
