/- The walks of the readers of one sign: starting, next (the program's), one (the document's). -/
import Derived.Test.YtilamfbpbgcnpaaDoorUtfS
import Derived.Handy
namespace Go.Proofs.YtilamfbpbgcnpaaDoor
open Go.RowKit
set_option linter.unusedVariables false
set_option maxRecDepth 20000
/-- What starting answers. -/
def StPost (x : Nat) (w : World) (e : Ending) (w' : World) : Prop :=
  (match st x with
    | none => e = .returned (.tuple #[.agg #[.int .i64 0, .int .i64 0, .int .u8 0, .int .u8 0], .bool false])
    | some (c, n, lo, hi) => e = .returned (.tuple #[.agg #[.int .i64 (c : Int), .int .i64 (n : Int), .int .u8 (lo : Int), .int .u8 (hi : Int)], .bool true])) ∧ Below w.heap.size w w'
theorem StPost.yes {x c n lo hi : Nat} {w w' : World} {e : Ending} (h : st x = some (c, n, lo, hi)) (he : e = .returned (.tuple #[.agg #[.int .i64 (c : Int), .int .i64 (n : Int), .int .u8 (lo : Int), .int .u8 (hi : Int)], .bool true])) (hb : Below w.heap.size w w') : StPost x w e w' := by
  unfold StPost; rw [h]; exact ⟨he, hb⟩
theorem StPost.no {x : Nat} {w w' : World} (h : st x = none) (hb : Below w.heap.size w w') : StPost x w (.returned (.tuple #[.agg #[.int .i64 0, .int .i64 0, .int .u8 0, .int .u8 0], .bool false])) w' := by
  unfold StPost; rw [h]; exact ⟨rfl, hb⟩
theorem StPost.of_no {x : Nat} {w w' : World} {e : Ending} (h : st x = none) (hp : StPost x w e w') : e = .returned (.tuple #[.agg #[.int .i64 0, .int .i64 0, .int .u8 0, .int .u8 0], .bool false]) ∧ Below w.heap.size w w' := by
  unfold StPost at hp; rw [h] at hp; exact hp
theorem StPost.of_yes {x c n lo hi : Nat} {w w' : World} {e : Ending} (h : st x = some (c, n, lo, hi)) (hp : StPost x w e w') : e = .returned (.tuple #[.agg #[.int .i64 (c : Int), .int .i64 (n : Int), .int .u8 (lo : Int), .int .u8 (hi : Int)], .bool true]) ∧ Below w.heap.size w w' := by
  unfold StPost at hp; rw [h] at hp; exact hp
theorem u8mask (x k : Nat) (hx : x < 256) (hk : k ≤ 8) : bits .and .u8 (x : Int) ((2 ^ k - 1 : Nat) : Int) = ((x % 2 ^ k : Nat) : Int) := by
  have : 2 ^ k ≤ 2 ^ 8 := Nat.pow_le_pow_right (by decide) hk
  rw [u8_and_nat x (2 ^ k - 1) hx (by omega), Nat.and_two_pow_sub_one_eq_mod]
theorem i64mask (x k : Nat) (hx : x < 256) (hk : k ≤ 8) : bits .and .i64 (x : Int) ((2 ^ k - 1 : Nat) : Int) = ((x % 2 ^ k : Nat) : Int) := by
  have : 2 ^ k ≤ 2 ^ 8 := Nat.pow_le_pow_right (by decide) hk
  rw [i64_and x (2 ^ k - 1) (by omega) (by omega), Nat.and_two_pow_sub_one_eq_mod]
theorem st_a {x : Nat} (h : x < 128) : st x = some (x, 0, 128, 191) := by unfold st; rw [if_pos h]
theorem st_b {x : Nat} (h1 : ¬ x < 128) (h : x < 194) : st x = none := by unfold st; rw [if_neg h1, if_pos h]
theorem st_c {x : Nat} (h1 : ¬ x < 194) (h : x < 224) : st x = some (x - 192, 1, 128, 191) := by unfold st; rw [if_neg (by omega), if_neg h1, if_pos h]
theorem st_d {x : Nat} (h1 : ¬ x < 224) (h : x < 240) : st x = some (x - 224, 2, if x = 224 then 160 else 128, if x = 237 then 159 else 191) := by unfold st; rw [if_neg (by omega), if_neg (by omega), if_neg h1, if_pos h]
theorem st_e {x : Nat} (h1 : ¬ x < 240) (h : x < 245) : st x = some (x - 240, 3, if x = 240 then 144 else 128, if x = 244 then 143 else 191) := by unfold st; rw [if_neg (by omega), if_neg (by omega), if_neg (by omega), if_neg h1, if_pos h]
theorem st_f {x : Nat} (h1 : ¬ x < 245) : st x = none := by unfold st; rw [if_neg (by omega), if_neg (by omega), if_neg (by omega), if_neg (by omega), if_neg h1]
set_option maxRecDepth 20000 in
set_option maxHeartbeats 1000000 in
theorem starting_a (x : Nat) (w : World) (h1 : 0 ≤ x) (h2 : x ≤ 127) : Calls Tryd.prog 92 #[.int .u8 (x : Int)] w fun e w' => StPost x w e w' := by
  have HS : Hid (st x = some (x, 0, 128, 191)) := st_a (by omega)
  have g0 : (0 : Int) ≤ (x : Int) := by omega
  have g1 : (x : Int) ≤ 127 := by omega
  have t224 : ((x : Int) == 224) = false := by rw [beq_eq_false_iff_ne]; omega
  have t237 : ((x : Int) == 237) = false := by rw [beq_eq_false_iff_ne]; omega
  have t240 : ((x : Int) == 240) = false := by rw [beq_eq_false_iff_ne]; omega
  have t244 : ((x : Int) == 244) = false := by rw [beq_eq_false_iff_ne]; omega
  clear h1 h2
  go_enter Tryd.func92, Tryd.ntmps92
  go_wp2
  go_returns
  exact StPost.yes HS.out rfl (((Below.refl _ _).alloc (Nat.le_refl _) _).alloc (by simp) _)
set_option maxRecDepth 20000 in
set_option maxHeartbeats 1000000 in
theorem starting_b (x : Nat) (w : World) (h1 : 128 ≤ x) (h2 : x ≤ 193) : Calls Tryd.prog 92 #[.int .u8 (x : Int)] w fun e w' => StPost x w e w' := by
  have HS : Hid (st x = none) := st_b (by omega) (by omega)
  have g0 : (128 : Int) ≤ (x : Int) := by omega
  have g1 : (x : Int) ≤ 193 := by omega
  have t224 : ((x : Int) == 224) = false := by rw [beq_eq_false_iff_ne]; omega
  have t237 : ((x : Int) == 237) = false := by rw [beq_eq_false_iff_ne]; omega
  have t240 : ((x : Int) == 240) = false := by rw [beq_eq_false_iff_ne]; omega
  have t244 : ((x : Int) == 244) = false := by rw [beq_eq_false_iff_ne]; omega
  clear h1 h2
  go_enter Tryd.func92, Tryd.ntmps92
  go_wp2
  go_returns
  exact StPost.no HS.out (((Below.refl _ _).alloc (Nat.le_refl _) _).alloc (by simp) _)
set_option maxRecDepth 20000 in
set_option maxHeartbeats 1000000 in
theorem starting_c (x : Nat) (w : World) (h1 : 194 ≤ x) (h2 : x ≤ 223) : Calls Tryd.prog 92 #[.int .u8 (x : Int)] w fun e w' => StPost x w e w' := by
  obtain ⟨r, hr⟩ : ∃ r : Nat, r = x - 192 := ⟨_, rfl⟩
  have e1 := u8mask x 5 (by omega) (by decide)
  rw [show ((2 ^ 5 - 1 : Nat) : Int) = 31 from rfl, show x % 2 ^ 5 = r by omega] at e1
  have HS : Hid (st x = some (r, 1, 128, 191)) := by rw [hr]; exact st_c (by omega) (by omega)
  have r0 : (r : Int) < 64 := by omega
  clear hr
  have g0 : (194 : Int) ≤ (x : Int) := by omega
  have g1 : (x : Int) ≤ 223 := by omega
  have t224 : ((x : Int) == 224) = false := by rw [beq_eq_false_iff_ne]; omega
  have t237 : ((x : Int) == 237) = false := by rw [beq_eq_false_iff_ne]; omega
  have t240 : ((x : Int) == 240) = false := by rw [beq_eq_false_iff_ne]; omega
  have t244 : ((x : Int) == 244) = false := by rw [beq_eq_false_iff_ne]; omega
  clear h1 h2
  go_enter Tryd.func92, Tryd.ntmps92
  go_wp2
  go_returns
  exact StPost.yes HS.out rfl (((Below.refl _ _).alloc (Nat.le_refl _) _).alloc (by simp) _)
set_option maxRecDepth 20000 in
set_option maxHeartbeats 1000000 in
theorem starting_d1 (x : Nat) (w : World) (h1 : 224 ≤ x) (h2 : x ≤ 224) : Calls Tryd.prog 92 #[.int .u8 (x : Int)] w fun e w' => StPost x w e w' := by
  obtain ⟨r, hr⟩ : ∃ r : Nat, r = x - 224 := ⟨_, rfl⟩
  have e1 := u8mask x 4 (by omega) (by decide)
  rw [show ((2 ^ 4 - 1 : Nat) : Int) = 15 from rfl, show x % 2 ^ 4 = r by omega] at e1
  have HS : Hid (st x = some (r, 2, 160, 191)) := by
    show st x = _
    rw [st_d (by omega) (by omega), if_pos (by omega), if_neg (by omega), hr]
  have r0 : (r : Int) < 64 := by omega
  clear hr
  have g0 : (224 : Int) ≤ (x : Int) := by omega
  have g1 : (x : Int) ≤ 224 := by omega
  have t224 : ((x : Int) == 224) = true := by rw [beq_iff_eq]; omega
  have t237 : ((x : Int) == 237) = false := by rw [beq_eq_false_iff_ne]; omega
  have t240 : ((x : Int) == 240) = false := by rw [beq_eq_false_iff_ne]; omega
  have t244 : ((x : Int) == 244) = false := by rw [beq_eq_false_iff_ne]; omega
  clear h1 h2
  go_enter Tryd.func92, Tryd.ntmps92
  go_wp2
  go_returns
  exact StPost.yes HS.out rfl (((Below.refl _ _).alloc (Nat.le_refl _) _).alloc (by simp) _)
set_option maxRecDepth 20000 in
set_option maxHeartbeats 1000000 in
theorem starting_d2 (x : Nat) (w : World) (h1 : 225 ≤ x) (h2 : x ≤ 236) : Calls Tryd.prog 92 #[.int .u8 (x : Int)] w fun e w' => StPost x w e w' := by
  obtain ⟨r, hr⟩ : ∃ r : Nat, r = x - 224 := ⟨_, rfl⟩
  have e1 := u8mask x 4 (by omega) (by decide)
  rw [show ((2 ^ 4 - 1 : Nat) : Int) = 15 from rfl, show x % 2 ^ 4 = r by omega] at e1
  have HS : Hid (st x = some (r, 2, 128, 191)) := by
    show st x = _
    rw [st_d (by omega) (by omega), if_neg (by omega), if_neg (by omega), hr]
  have r0 : (r : Int) < 64 := by omega
  clear hr
  have g0 : (225 : Int) ≤ (x : Int) := by omega
  have g1 : (x : Int) ≤ 236 := by omega
  have t224 : ((x : Int) == 224) = false := by rw [beq_eq_false_iff_ne]; omega
  have t237 : ((x : Int) == 237) = false := by rw [beq_eq_false_iff_ne]; omega
  have t240 : ((x : Int) == 240) = false := by rw [beq_eq_false_iff_ne]; omega
  have t244 : ((x : Int) == 244) = false := by rw [beq_eq_false_iff_ne]; omega
  clear h1 h2
  go_enter Tryd.func92, Tryd.ntmps92
  go_wp2
  go_returns
  exact StPost.yes HS.out rfl (((Below.refl _ _).alloc (Nat.le_refl _) _).alloc (by simp) _)
set_option maxRecDepth 20000 in
set_option maxHeartbeats 1000000 in
theorem starting_d3 (x : Nat) (w : World) (h1 : 237 ≤ x) (h2 : x ≤ 237) : Calls Tryd.prog 92 #[.int .u8 (x : Int)] w fun e w' => StPost x w e w' := by
  obtain ⟨r, hr⟩ : ∃ r : Nat, r = x - 224 := ⟨_, rfl⟩
  have e1 := u8mask x 4 (by omega) (by decide)
  rw [show ((2 ^ 4 - 1 : Nat) : Int) = 15 from rfl, show x % 2 ^ 4 = r by omega] at e1
  have HS : Hid (st x = some (r, 2, 128, 159)) := by
    show st x = _
    rw [st_d (by omega) (by omega), if_neg (by omega), if_pos (by omega), hr]
  have r0 : (r : Int) < 64 := by omega
  clear hr
  have g0 : (237 : Int) ≤ (x : Int) := by omega
  have g1 : (x : Int) ≤ 237 := by omega
  have t224 : ((x : Int) == 224) = false := by rw [beq_eq_false_iff_ne]; omega
  have t237 : ((x : Int) == 237) = true := by rw [beq_iff_eq]; omega
  have t240 : ((x : Int) == 240) = false := by rw [beq_eq_false_iff_ne]; omega
  have t244 : ((x : Int) == 244) = false := by rw [beq_eq_false_iff_ne]; omega
  clear h1 h2
  go_enter Tryd.func92, Tryd.ntmps92
  go_wp2
  go_returns
  exact StPost.yes HS.out rfl (((Below.refl _ _).alloc (Nat.le_refl _) _).alloc (by simp) _)
set_option maxRecDepth 20000 in
set_option maxHeartbeats 1000000 in
theorem starting_d4 (x : Nat) (w : World) (h1 : 238 ≤ x) (h2 : x ≤ 239) : Calls Tryd.prog 92 #[.int .u8 (x : Int)] w fun e w' => StPost x w e w' := by
  obtain ⟨r, hr⟩ : ∃ r : Nat, r = x - 224 := ⟨_, rfl⟩
  have e1 := u8mask x 4 (by omega) (by decide)
  rw [show ((2 ^ 4 - 1 : Nat) : Int) = 15 from rfl, show x % 2 ^ 4 = r by omega] at e1
  have HS : Hid (st x = some (r, 2, 128, 191)) := by
    show st x = _
    rw [st_d (by omega) (by omega), if_neg (by omega), if_neg (by omega), hr]
  have r0 : (r : Int) < 64 := by omega
  clear hr
  have g0 : (238 : Int) ≤ (x : Int) := by omega
  have g1 : (x : Int) ≤ 239 := by omega
  have t224 : ((x : Int) == 224) = false := by rw [beq_eq_false_iff_ne]; omega
  have t237 : ((x : Int) == 237) = false := by rw [beq_eq_false_iff_ne]; omega
  have t240 : ((x : Int) == 240) = false := by rw [beq_eq_false_iff_ne]; omega
  have t244 : ((x : Int) == 244) = false := by rw [beq_eq_false_iff_ne]; omega
  clear h1 h2
  go_enter Tryd.func92, Tryd.ntmps92
  go_wp2
  go_returns
  exact StPost.yes HS.out rfl (((Below.refl _ _).alloc (Nat.le_refl _) _).alloc (by simp) _)
set_option maxRecDepth 20000 in
set_option maxHeartbeats 1000000 in
theorem starting_e1 (x : Nat) (w : World) (h1 : 240 ≤ x) (h2 : x ≤ 240) : Calls Tryd.prog 92 #[.int .u8 (x : Int)] w fun e w' => StPost x w e w' := by
  obtain ⟨r, hr⟩ : ∃ r : Nat, r = x - 240 := ⟨_, rfl⟩
  have e1 := u8mask x 3 (by omega) (by decide)
  rw [show ((2 ^ 3 - 1 : Nat) : Int) = 7 from rfl, show x % 2 ^ 3 = r by omega] at e1
  have HS : Hid (st x = some (r, 3, 144, 191)) := by
    show st x = _
    rw [st_e (by omega) (by omega), if_pos (by omega), if_neg (by omega), hr]
  have r0 : (r : Int) < 64 := by omega
  clear hr
  have g0 : (240 : Int) ≤ (x : Int) := by omega
  have g1 : (x : Int) ≤ 240 := by omega
  have t224 : ((x : Int) == 224) = false := by rw [beq_eq_false_iff_ne]; omega
  have t237 : ((x : Int) == 237) = false := by rw [beq_eq_false_iff_ne]; omega
  have t240 : ((x : Int) == 240) = true := by rw [beq_iff_eq]; omega
  have t244 : ((x : Int) == 244) = false := by rw [beq_eq_false_iff_ne]; omega
  clear h1 h2
  go_enter Tryd.func92, Tryd.ntmps92
  go_wp2
  go_returns
  exact StPost.yes HS.out rfl (((Below.refl _ _).alloc (Nat.le_refl _) _).alloc (by simp) _)
set_option maxRecDepth 20000 in
set_option maxHeartbeats 1000000 in
theorem starting_e2 (x : Nat) (w : World) (h1 : 241 ≤ x) (h2 : x ≤ 243) : Calls Tryd.prog 92 #[.int .u8 (x : Int)] w fun e w' => StPost x w e w' := by
  obtain ⟨r, hr⟩ : ∃ r : Nat, r = x - 240 := ⟨_, rfl⟩
  have e1 := u8mask x 3 (by omega) (by decide)
  rw [show ((2 ^ 3 - 1 : Nat) : Int) = 7 from rfl, show x % 2 ^ 3 = r by omega] at e1
  have HS : Hid (st x = some (r, 3, 128, 191)) := by
    show st x = _
    rw [st_e (by omega) (by omega), if_neg (by omega), if_neg (by omega), hr]
  have r0 : (r : Int) < 64 := by omega
  clear hr
  have g0 : (241 : Int) ≤ (x : Int) := by omega
  have g1 : (x : Int) ≤ 243 := by omega
  have t224 : ((x : Int) == 224) = false := by rw [beq_eq_false_iff_ne]; omega
  have t237 : ((x : Int) == 237) = false := by rw [beq_eq_false_iff_ne]; omega
  have t240 : ((x : Int) == 240) = false := by rw [beq_eq_false_iff_ne]; omega
  have t244 : ((x : Int) == 244) = false := by rw [beq_eq_false_iff_ne]; omega
  clear h1 h2
  go_enter Tryd.func92, Tryd.ntmps92
  go_wp2
  go_returns
  exact StPost.yes HS.out rfl (((Below.refl _ _).alloc (Nat.le_refl _) _).alloc (by simp) _)
set_option maxRecDepth 20000 in
set_option maxHeartbeats 1000000 in
theorem starting_e3 (x : Nat) (w : World) (h1 : 244 ≤ x) (h2 : x ≤ 244) : Calls Tryd.prog 92 #[.int .u8 (x : Int)] w fun e w' => StPost x w e w' := by
  obtain ⟨r, hr⟩ : ∃ r : Nat, r = x - 240 := ⟨_, rfl⟩
  have e1 := u8mask x 3 (by omega) (by decide)
  rw [show ((2 ^ 3 - 1 : Nat) : Int) = 7 from rfl, show x % 2 ^ 3 = r by omega] at e1
  have HS : Hid (st x = some (r, 3, 128, 143)) := by
    show st x = _
    rw [st_e (by omega) (by omega), if_neg (by omega), if_pos (by omega), hr]
  have r0 : (r : Int) < 64 := by omega
  clear hr
  have g0 : (244 : Int) ≤ (x : Int) := by omega
  have g1 : (x : Int) ≤ 244 := by omega
  have t224 : ((x : Int) == 224) = false := by rw [beq_eq_false_iff_ne]; omega
  have t237 : ((x : Int) == 237) = false := by rw [beq_eq_false_iff_ne]; omega
  have t240 : ((x : Int) == 240) = false := by rw [beq_eq_false_iff_ne]; omega
  have t244 : ((x : Int) == 244) = true := by rw [beq_iff_eq]; omega
  clear h1 h2
  go_enter Tryd.func92, Tryd.ntmps92
  go_wp2
  go_returns
  exact StPost.yes HS.out rfl (((Below.refl _ _).alloc (Nat.le_refl _) _).alloc (by simp) _)
set_option maxRecDepth 20000 in
set_option maxHeartbeats 1000000 in
theorem starting_f (x : Nat) (w : World) (h1 : 245 ≤ x) (h2 : x ≤ 255) : Calls Tryd.prog 92 #[.int .u8 (x : Int)] w fun e w' => StPost x w e w' := by
  have HS : Hid (st x = none) := st_f (by omega)
  have g0 : (245 : Int) ≤ (x : Int) := by omega
  have g1 : (x : Int) ≤ 255 := by omega
  have t224 : ((x : Int) == 224) = false := by rw [beq_eq_false_iff_ne]; omega
  have t237 : ((x : Int) == 237) = false := by rw [beq_eq_false_iff_ne]; omega
  have t240 : ((x : Int) == 240) = false := by rw [beq_eq_false_iff_ne]; omega
  have t244 : ((x : Int) == 244) = false := by rw [beq_eq_false_iff_ne]; omega
  clear h1 h2
  go_enter Tryd.func92, Tryd.ntmps92
  go_wp2
  go_returns
  exact StPost.no HS.out (((Below.refl _ _).alloc (Nat.le_refl _) _).alloc (by simp) _)
theorem starting_calls (x : Nat) (w : World) (hx : x < 256) : Calls Tryd.prog 92 #[.int .u8 (x : Int)] w fun e w' => StPost x w e w' := by
  rcases (by omega : x ≤ 127 ∨ (128 ≤ x ∧ x ≤ 193) ∨ (194 ≤ x ∧ x ≤ 223) ∨ (224 ≤ x ∧ x ≤ 224) ∨ (225 ≤ x ∧ x ≤ 236) ∨ (237 ≤ x ∧ x ≤ 237) ∨ (238 ≤ x ∧ x ≤ 239) ∨ (240 ≤ x ∧ x ≤ 240) ∨ (241 ≤ x ∧ x ≤ 243) ∨ (244 ≤ x ∧ x ≤ 244) ∨ (245 ≤ x ∧ x ≤ 255)) with h | ⟨h1, h2⟩ | ⟨h1, h2⟩ | ⟨h1, h2⟩ | ⟨h1, h2⟩ | ⟨h1, h2⟩ | ⟨h1, h2⟩ | ⟨h1, h2⟩ | ⟨h1, h2⟩ | ⟨h1, h2⟩ | ⟨h1, h2⟩
  · exact starting_a x w (Nat.zero_le _) h
  · exact starting_b x w h1 h2
  · exact starting_c x w h1 h2
  · exact starting_d1 x w h1 h2
  · exact starting_d2 x w h1 h2
  · exact starting_d3 x w h1 h2
  · exact starting_d4 x w h1 h2
  · exact starting_e1 x w h1 h2
  · exact starting_e2 x w h1 h2
  · exact starting_e3 x w h1 h2
  · exact starting_f x w h1 h2
end Go.Proofs.YtilamfbpbgcnpaaDoor
