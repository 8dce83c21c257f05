/- The program's join: so many numbers into one, a theorem a count. -/
import Derived.Test.YtghhdccnocpobaaDoorIpWd
import Derived.Test.YtghhdccnocpobaaDoorIpH
namespace Go.Proofs.YtghhdccnocpobaaDoor
open Go.RowKit
set_option linter.unusedVariables false
set_option maxRecDepth 20000
/-- What join answers of so many numbers. -/
def JPost (ns : List Nat) (w : World) (e : Ending) (w' : World) : Prop := e = .returned (.tuple #[.int .u32 (((sum4 0 ns 0).getD 0 : Nat) : Int), .bool (sum4 0 ns 0).isSome]) ∧ Below w.heap.size w w'
theorem JPost.no {ns : List Nat} {w w' : World} (h : sum4 0 ns 0 = none) (hb : Below w.heap.size w w') : JPost ns w (.returned (.tuple #[.int .u32 0, .bool false])) w' := by unfold JPost; rw [h]; exact ⟨rfl, hb⟩
theorem JPost.yes {ns : List Nat} {w w' : World} {x : Nat} {v : Int} (h : sum4 0 ns 0 = some x) (hv : v = (x : Int)) (hb : Below w.heap.size w w') : JPost ns w (.returned (.tuple #[.int .u32 v, .bool true])) w' := by unfold JPost; rw [h, hv]; exact ⟨rfl, hb⟩
/-- A byte put between what is above it and what is below. -/
theorem or_mid (H x L a : Nat) (hL : L < 2 ^ a) (hx : x < 256) : (H * 2 ^ (a + 8) + L) ||| (x * 2 ^ a) = H * 2 ^ (a + 8) + L + x * 2 ^ a := by
  have h2 : 2 ^ (a + 8) = 256 * 2 ^ a := by rw [Nat.pow_add]; omega
  have hp : 0 < 2 ^ a := Nat.two_pow_pos a
  have hxa : x * 2 ^ a + L < 2 ^ (a + 8) := by
    rw [h2]
    have : x * 2 ^ a ≤ 255 * 2 ^ a := Nat.mul_le_mul_right _ (by omega)
    omega
  have hLa : L < 2 ^ (a + 8) := by omega
  have e1 := Nat.two_pow_add_eq_or_of_lt hLa H
  have e2 := Nat.two_pow_add_eq_or_of_lt hL x
  have e3 := Nat.two_pow_add_eq_or_of_lt hxa H
  rw [Nat.mul_comm H, e1, Nat.or_assoc, Nat.or_comm L, Nat.mul_comm x, ← e2, Nat.mul_comm (2 ^ a) x, ← e3]
  omega
theorem or64 (a b : Nat) (ha : a < 18446744073709551616) (hb : b < 18446744073709551616) : bits .or .u64 (a : Int) (b : Int) = ((a ||| b : Nat) : Int) :=
  (bits_nat .u64 64 (by decide) (fun n h0 h1 => by rw [IntKind.wrap_u64]; omega) a b (by omega) (by omega)).2
theorem or_put {n s p : Nat} {x : Nat} (H L a : Nat) (hn : n = H * 2 ^ (a + 8) + L) (hL : L < 2 ^ a) (hx : x < 256) (hp : p = x * 2 ^ a) (hs : s = n + p) (hs2 : s < 18446744073709551616) : bits .or .u64 (n : Int) (p : Int) = (s : Int) := by
  rw [or64 n p (by omega) (by omega), hn, hp, or_mid H x L a hL hx, hs, hn, hp]
set_option maxHeartbeats 4000000 in
theorem pjoin1_calls (a b c d : Nat) (w : World) (ha : a ≤ 4294967296) (hb : b ≤ 4294967296) (hc : c ≤ 4294967296) (hd : d ≤ 4294967296) :
    Calls Tryd.prog 23 #[.agg #[.int .u64 (a : Int), .int .u64 (b : Int), .int .u64 (c : Int), .int .u64 (d : Int)], .int .i64 1] w fun e w' => JPost [a] w e w' := by
  have HBw := hid ((Below.refl w.heap.size w).alloc (Nat.le_refl _) (.cells #[.int .u64 (a : Int), .int .u64 (b : Int), .int .u64 (c : Int), .int .u64 (d : Int)] 46))
  have hsum : sum4 0 [a] 0 = if a / 4294967296 = 0 then some (0 + a) else none := rfl
  have HSum := hid hsum
  clear hsum
  have a0 : (0 : Int) ≤ (a : Int) := by omega
  have a1 : (a : Int) ≤ 4294967296 := by omega
  have b0 : (0 : Int) ≤ (b : Int) := by omega
  have b1 : (b : Int) ≤ 4294967296 := by omega
  have c0 : (0 : Int) ≤ (c : Int) := by omega
  have c1 : (c : Int) ≤ 4294967296 := by omega
  have d0 : (0 : Int) ≤ (d : Int) := by omega
  have d1 : (d : Int) ≤ 4294967296 := by omega
  by_cases hx : a / 4294967296 = 0
  · have hxm : a < 4294967296 := by omega
    have x2 : (a : Int) < 4294967296 := by omega
    have x3 : (a : Int) / 4294967296 = 0 := by omega
    have HX := hid hx
    have HXM := hid hxm
    clear hx hxm ha hb hc hd
    go_enter Tryd.func23, Tryd.ntmps23
    go_wp2_with fail
    go_loop [7, 24] (fun vn vi => (vi = .int .i64 0 ∧ vn = .int .u64 ((a : Nat) : Int))) (fun _ vi => 0 - (intOf vi).toNat)
    case atStart => exact ⟨rfl, rfl⟩
    case round =>
      obtain ⟨rfl, rfl⟩ := hrel
      have HV : Hid (sum4 0 [a] 0 = some (a)) := by
        show _ = _
        rw [HSum.out, if_pos HX.out]
        congr 1
        omega
      have HXM2 := HXM.out
      have hs : a < 4294967296 := by omega
      clear HXM2
      have s0 : (0 : Int) ≤ (a : Int) := by omega
      have s1 : (a : Int) < 4294967296 := by omega
      have s2 : IntKind.wrap .u32 (a : Int) = (a : Int) := by rw [IntKind.wrap_u32]; omega
      clear hs
      go_wp2_with fail
      go_ret2
      exact JPost.yes HV.out rfl HBw.out
  · have x2 : ¬ (a : Int) < 4294967296 := by omega
    obtain ⟨qq, hqq⟩ : ∃ qq, a / 4294967296 = qq := ⟨_, rfl⟩
    have x3 : (a : Int) / 4294967296 = (qq : Int) := by omega
    have x4 : ((qq : Int) == 0) = false := by rw [beq_eq_false_iff_ne]; omega
    have x5 : ((qq : Int) != 0) = true := by rw [bne_iff_ne]; omega
    have HV : Hid (sum4 0 [a] 0 = none) := by
      show _ = _
      rw [HSum.out, if_neg hx]
    clear hx hqq ha hb hc hd
    go_enter Tryd.func23, Tryd.ntmps23
    go_wp2_with fail
    go_ret2
    exact JPost.no HV.out HBw.out
set_option maxHeartbeats 4000000 in
theorem pjoin2_calls (a b c d : Nat) (w : World) (ha : a ≤ 4294967296) (hb : b ≤ 4294967296) (hc : c ≤ 4294967296) (hd : d ≤ 4294967296) :
    Calls Tryd.prog 23 #[.agg #[.int .u64 (a : Int), .int .u64 (b : Int), .int .u64 (c : Int), .int .u64 (d : Int)], .int .i64 2] w fun e w' => JPost [a, b] w e w' := by
  have HBw := hid ((Below.refl w.heap.size w).alloc (Nat.le_refl _) (.cells #[.int .u64 (a : Int), .int .u64 (b : Int), .int .u64 (c : Int), .int .u64 (d : Int)] 46))
  have hsum : sum4 0 [a, b] 0 = if 255 < a then none else if b / 16777216 = 0 then some (0 + a * 16777216 + b) else none := rfl
  have HSum := hid hsum
  clear hsum
  have a0 : (0 : Int) ≤ (a : Int) := by omega
  have a1 : (a : Int) ≤ 4294967296 := by omega
  have b0 : (0 : Int) ≤ (b : Int) := by omega
  have b1 : (b : Int) ≤ 4294967296 := by omega
  have c0 : (0 : Int) ≤ (c : Int) := by omega
  have c1 : (c : Int) ≤ 4294967296 := by omega
  have d0 : (0 : Int) ≤ (d : Int) := by omega
  have d1 : (d : Int) ≤ 4294967296 := by omega
  by_cases hx : b / 16777216 = 0
  · have hxm : b < 16777216 := by omega
    have x2 : (b : Int) < 16777216 := by omega
    have x3 : (b : Int) / 16777216 = 0 := by omega
    have HX := hid hx
    have HXM := hid hxm
    clear hx hxm ha hb hc hd
    go_enter Tryd.func23, Tryd.ntmps23
    go_wp2_with fail
    go_loop [7, 24] (fun vn vi => (vi = .int .i64 0 ∧ vn = .int .u64 ((b : Nat) : Int)) ∨ (vi = .int .i64 1 ∧ vn = .int .u64 ((b + a * 16777216 : Nat) : Int) ∧ a ≤ 255)) (fun _ vi => 1 - (intOf vi).toNat)
    case atStart => exact .inl ⟨rfl, rfl⟩
    case round =>
      rcases hrel with ⟨rfl, rfl⟩ | ⟨rfl, rfl, q0⟩
      · by_cases h255 : 255 < a
        · have HV : Hid (sum4 0 [a, b] 0 = none) := by
            show _ = _
            rw [HSum.out, if_pos h255]
          have g1 : (255 : Int) < (a : Int) := by omega
          clear h255
          skip
          go_wp2_with fail
          go_ret2
          exact JPost.no HV.out HBw.out
        · have g1 : ¬ (255 : Int) < (a : Int) := by omega
          have HXM2 := HXM.out
          obtain ⟨pp, hpp⟩ : ∃ pp, a * 16777216 = pp := ⟨_, rfl⟩
          obtain ⟨ss, hss⟩ : ∃ ss, b + a * 16777216 = ss := ⟨_, rfl⟩
          have hor : bits .or .u64 (b : Int) (pp : Int) = (ss : Int) := or_put (0) b 24 (by omega) (by omega) (x := a) (by omega) (by omega) (by omega) (by omega)
          have hpi : (a : Int) * 16777216 = (pp : Int) := by omega
          have p0 : (0 : Int) ≤ (pp : Int) := by omega
          have p1 : (pp : Int) < 4294967296 := by omega
          have hsh : IntKind.wrap .u64 (pp : Int) = (pp : Int) := by rw [IntKind.wrap_u64]; omega
          have HR : Hid (a ≤ 255) := by show _ ≤ _; omega
          have HNN : Hid (b + a * 16777216 = ss) := by show _ = _; omega
          clear h255 HXM2 hss hpp
          go_wp2_with fail
          go_round
          case rel => exact .inr (⟨rfl, by rw [HNN.out]; try rfl, HR.out⟩)
          case measure => simp [intOf]
      · have HV : Hid (sum4 0 [a, b] 0 = some (b + a * 16777216)) := by
          show _ = _
          rw [HSum.out, if_neg (by omega), if_pos HX.out]
          congr 1
          omega
        have HXM2 := HXM.out
        have hs : b + a * 16777216 < 4294967296 := by omega
        clear HXM2
        obtain ⟨s, hse⟩ : ∃ s, b + a * 16777216 = s := ⟨_, rfl⟩
        rw [hse] at HV hs ⊢
        have s0 : (0 : Int) ≤ (s : Int) := by omega
        have s1 : (s : Int) < 4294967296 := by omega
        have s2 : IntKind.wrap .u32 (s : Int) = (s : Int) := by rw [IntKind.wrap_u32]; omega
        clear hs hse
        go_wp2_with fail
        go_ret2
        exact JPost.yes HV.out rfl HBw.out
  · have x2 : ¬ (b : Int) < 16777216 := by omega
    obtain ⟨qq, hqq⟩ : ∃ qq, b / 16777216 = qq := ⟨_, rfl⟩
    have x3 : (b : Int) / 16777216 = (qq : Int) := by omega
    have x4 : ((qq : Int) == 0) = false := by rw [beq_eq_false_iff_ne]; omega
    have x5 : ((qq : Int) != 0) = true := by rw [bne_iff_ne]; omega
    have HV : Hid (sum4 0 [a, b] 0 = none) := by
      show _ = _
      rw [HSum.out, if_neg hx]
      repeat (first | rfl | (split; rfl))
    clear hx hqq ha hb hc hd
    go_enter Tryd.func23, Tryd.ntmps23
    go_wp2_with fail
    go_ret2
    exact JPost.no HV.out HBw.out
set_option maxHeartbeats 4000000 in
theorem pjoin3_calls (a b c d : Nat) (w : World) (ha : a ≤ 4294967296) (hb : b ≤ 4294967296) (hc : c ≤ 4294967296) (hd : d ≤ 4294967296) :
    Calls Tryd.prog 23 #[.agg #[.int .u64 (a : Int), .int .u64 (b : Int), .int .u64 (c : Int), .int .u64 (d : Int)], .int .i64 3] w fun e w' => JPost [a, b, c] w e w' := by
  have HBw := hid ((Below.refl w.heap.size w).alloc (Nat.le_refl _) (.cells #[.int .u64 (a : Int), .int .u64 (b : Int), .int .u64 (c : Int), .int .u64 (d : Int)] 46))
  have hsum : sum4 0 [a, b, c] 0 = if 255 < a then none else if 255 < b then none else if c / 65536 = 0 then some (0 + a * 16777216 + b * 65536 + c) else none := rfl
  have HSum := hid hsum
  clear hsum
  have a0 : (0 : Int) ≤ (a : Int) := by omega
  have a1 : (a : Int) ≤ 4294967296 := by omega
  have b0 : (0 : Int) ≤ (b : Int) := by omega
  have b1 : (b : Int) ≤ 4294967296 := by omega
  have c0 : (0 : Int) ≤ (c : Int) := by omega
  have c1 : (c : Int) ≤ 4294967296 := by omega
  have d0 : (0 : Int) ≤ (d : Int) := by omega
  have d1 : (d : Int) ≤ 4294967296 := by omega
  by_cases hx : c / 65536 = 0
  · have hxm : c < 65536 := by omega
    have x2 : (c : Int) < 65536 := by omega
    have x3 : (c : Int) / 65536 = 0 := by omega
    have HX := hid hx
    have HXM := hid hxm
    clear hx hxm ha hb hc hd
    go_enter Tryd.func23, Tryd.ntmps23
    go_wp2_with fail
    go_loop [7, 24] (fun vn vi => (vi = .int .i64 0 ∧ vn = .int .u64 ((c : Nat) : Int)) ∨ (vi = .int .i64 1 ∧ vn = .int .u64 ((c + a * 16777216 : Nat) : Int) ∧ a ≤ 255) ∨ (vi = .int .i64 2 ∧ vn = .int .u64 ((c + a * 16777216 + b * 65536 : Nat) : Int) ∧ a ≤ 255 ∧ b ≤ 255)) (fun _ vi => 2 - (intOf vi).toNat)
    case atStart => exact .inl ⟨rfl, rfl⟩
    case round =>
      rcases hrel with ⟨rfl, rfl⟩ | ⟨rfl, rfl, q0⟩ | ⟨rfl, rfl, q0, q1⟩
      · by_cases h255 : 255 < a
        · have HV : Hid (sum4 0 [a, b, c] 0 = none) := by
            show _ = _
            rw [HSum.out, if_pos h255]
          have g1 : (255 : Int) < (a : Int) := by omega
          clear h255
          skip
          go_wp2_with fail
          go_ret2
          exact JPost.no HV.out HBw.out
        · have g1 : ¬ (255 : Int) < (a : Int) := by omega
          have HXM2 := HXM.out
          obtain ⟨pp, hpp⟩ : ∃ pp, a * 16777216 = pp := ⟨_, rfl⟩
          obtain ⟨ss, hss⟩ : ∃ ss, c + a * 16777216 = ss := ⟨_, rfl⟩
          have hor : bits .or .u64 (c : Int) (pp : Int) = (ss : Int) := or_put (0) c 24 (by omega) (by omega) (x := a) (by omega) (by omega) (by omega) (by omega)
          have hpi : (a : Int) * 16777216 = (pp : Int) := by omega
          have p0 : (0 : Int) ≤ (pp : Int) := by omega
          have p1 : (pp : Int) < 4294967296 := by omega
          have hsh : IntKind.wrap .u64 (pp : Int) = (pp : Int) := by rw [IntKind.wrap_u64]; omega
          have HR : Hid (a ≤ 255) := by show _ ≤ _; omega
          have HNN : Hid (c + a * 16777216 = ss) := by show _ = _; omega
          clear h255 HXM2 hss hpp
          go_wp2_with fail
          go_round
          case rel => exact .inr (.inl ⟨rfl, by rw [HNN.out]; try rfl, HR.out⟩)
          case measure => simp [intOf]
      · by_cases h255 : 255 < b
        · have HV : Hid (sum4 0 [a, b, c] 0 = none) := by
            show _ = _
            rw [HSum.out, if_neg (by omega), if_pos h255]
          have g1 : (255 : Int) < (b : Int) := by omega
          clear h255
          generalize (c + a * 16777216 : Nat) = nn
          go_wp2_with fail
          go_ret2
          exact JPost.no HV.out HBw.out
        · have g1 : ¬ (255 : Int) < (b : Int) := by omega
          have HXM2 := HXM.out
          obtain ⟨nn, hnn⟩ : ∃ nn, c + a * 16777216 = nn := ⟨_, rfl⟩
          obtain ⟨pp, hpp⟩ : ∃ pp, b * 65536 = pp := ⟨_, rfl⟩
          obtain ⟨ss, hss⟩ : ∃ ss, c + a * 16777216 + b * 65536 = ss := ⟨_, rfl⟩
          have hor : bits .or .u64 (nn : Int) (pp : Int) = (ss : Int) := or_put (a * 1) c 16 (by omega) (by omega) (x := b) (by omega) (by omega) (by omega) (by omega)
          have hpi : (b : Int) * 65536 = (pp : Int) := by omega
          have p0 : (0 : Int) ≤ (pp : Int) := by omega
          have p1 : (pp : Int) < 4294967296 := by omega
          have hsh : IntKind.wrap .u64 (pp : Int) = (pp : Int) := by rw [IntKind.wrap_u64]; omega
          have HR : Hid (b ≤ 255) := by show _ ≤ _; omega
          have HNN : Hid (nn + b * 65536 = ss) := by show _ = _; omega
          rw [hnn]
          clear h255 HXM2 hss hpp hnn
          go_wp2_with fail
          go_round
          case rel => exact .inr (.inr (⟨rfl, by rw [HNN.out]; try rfl, q0, HR.out⟩))
          case measure => simp [intOf]
      · have HV : Hid (sum4 0 [a, b, c] 0 = some (c + a * 16777216 + b * 65536)) := by
          show _ = _
          rw [HSum.out, if_neg (by omega), if_neg (by omega), if_pos HX.out]
          congr 1
          omega
        have HXM2 := HXM.out
        have hs : c + a * 16777216 + b * 65536 < 4294967296 := by omega
        clear HXM2
        obtain ⟨s, hse⟩ : ∃ s, c + a * 16777216 + b * 65536 = s := ⟨_, rfl⟩
        rw [hse] at HV hs ⊢
        have s0 : (0 : Int) ≤ (s : Int) := by omega
        have s1 : (s : Int) < 4294967296 := by omega
        have s2 : IntKind.wrap .u32 (s : Int) = (s : Int) := by rw [IntKind.wrap_u32]; omega
        clear hs hse
        go_wp2_with fail
        go_ret2
        exact JPost.yes HV.out rfl HBw.out
  · have x2 : ¬ (c : Int) < 65536 := by omega
    obtain ⟨qq, hqq⟩ : ∃ qq, c / 65536 = qq := ⟨_, rfl⟩
    have x3 : (c : Int) / 65536 = (qq : Int) := by omega
    have x4 : ((qq : Int) == 0) = false := by rw [beq_eq_false_iff_ne]; omega
    have x5 : ((qq : Int) != 0) = true := by rw [bne_iff_ne]; omega
    have HV : Hid (sum4 0 [a, b, c] 0 = none) := by
      show _ = _
      rw [HSum.out, if_neg hx]
      repeat (first | rfl | (split; rfl))
    clear hx hqq ha hb hc hd
    go_enter Tryd.func23, Tryd.ntmps23
    go_wp2_with fail
    go_ret2
    exact JPost.no HV.out HBw.out
set_option maxHeartbeats 4000000 in
theorem pjoin4_calls (a b c d : Nat) (w : World) (ha : a ≤ 4294967296) (hb : b ≤ 4294967296) (hc : c ≤ 4294967296) (hd : d ≤ 4294967296) :
    Calls Tryd.prog 23 #[.agg #[.int .u64 (a : Int), .int .u64 (b : Int), .int .u64 (c : Int), .int .u64 (d : Int)], .int .i64 4] w fun e w' => JPost [a, b, c, d] w e w' := by
  have HBw := hid ((Below.refl w.heap.size w).alloc (Nat.le_refl _) (.cells #[.int .u64 (a : Int), .int .u64 (b : Int), .int .u64 (c : Int), .int .u64 (d : Int)] 46))
  have hsum : sum4 0 [a, b, c, d] 0 = if 255 < a then none else if 255 < b then none else if 255 < c then none else if d / 256 = 0 then some (0 + a * 16777216 + b * 65536 + c * 256 + d) else none := rfl
  have HSum := hid hsum
  clear hsum
  have a0 : (0 : Int) ≤ (a : Int) := by omega
  have a1 : (a : Int) ≤ 4294967296 := by omega
  have b0 : (0 : Int) ≤ (b : Int) := by omega
  have b1 : (b : Int) ≤ 4294967296 := by omega
  have c0 : (0 : Int) ≤ (c : Int) := by omega
  have c1 : (c : Int) ≤ 4294967296 := by omega
  have d0 : (0 : Int) ≤ (d : Int) := by omega
  have d1 : (d : Int) ≤ 4294967296 := by omega
  by_cases hx : d / 256 = 0
  · have hxm : d < 256 := by omega
    have x2 : (d : Int) < 256 := by omega
    have x3 : (d : Int) / 256 = 0 := by omega
    have HX := hid hx
    have HXM := hid hxm
    clear hx hxm ha hb hc hd
    go_enter Tryd.func23, Tryd.ntmps23
    go_wp2_with fail
    go_loop [7, 24] (fun vn vi => (vi = .int .i64 0 ∧ vn = .int .u64 ((d : Nat) : Int)) ∨ (vi = .int .i64 1 ∧ vn = .int .u64 ((d + a * 16777216 : Nat) : Int) ∧ a ≤ 255) ∨ (vi = .int .i64 2 ∧ vn = .int .u64 ((d + a * 16777216 + b * 65536 : Nat) : Int) ∧ a ≤ 255 ∧ b ≤ 255) ∨ (vi = .int .i64 3 ∧ vn = .int .u64 ((d + a * 16777216 + b * 65536 + c * 256 : Nat) : Int) ∧ a ≤ 255 ∧ b ≤ 255 ∧ c ≤ 255)) (fun _ vi => 3 - (intOf vi).toNat)
    case atStart => exact .inl ⟨rfl, rfl⟩
    case round =>
      rcases hrel with ⟨rfl, rfl⟩ | ⟨rfl, rfl, q0⟩ | ⟨rfl, rfl, q0, q1⟩ | ⟨rfl, rfl, q0, q1, q2⟩
      · by_cases h255 : 255 < a
        · have HV : Hid (sum4 0 [a, b, c, d] 0 = none) := by
            show _ = _
            rw [HSum.out, if_pos h255]
          have g1 : (255 : Int) < (a : Int) := by omega
          clear h255
          skip
          go_wp2_with fail
          go_ret2
          exact JPost.no HV.out HBw.out
        · have g1 : ¬ (255 : Int) < (a : Int) := by omega
          have HXM2 := HXM.out
          obtain ⟨pp, hpp⟩ : ∃ pp, a * 16777216 = pp := ⟨_, rfl⟩
          obtain ⟨ss, hss⟩ : ∃ ss, d + a * 16777216 = ss := ⟨_, rfl⟩
          have hor : bits .or .u64 (d : Int) (pp : Int) = (ss : Int) := or_put (0) d 24 (by omega) (by omega) (x := a) (by omega) (by omega) (by omega) (by omega)
          have hpi : (a : Int) * 16777216 = (pp : Int) := by omega
          have p0 : (0 : Int) ≤ (pp : Int) := by omega
          have p1 : (pp : Int) < 4294967296 := by omega
          have hsh : IntKind.wrap .u64 (pp : Int) = (pp : Int) := by rw [IntKind.wrap_u64]; omega
          have HR : Hid (a ≤ 255) := by show _ ≤ _; omega
          have HNN : Hid (d + a * 16777216 = ss) := by show _ = _; omega
          clear h255 HXM2 hss hpp
          go_wp2_with fail
          go_round
          case rel => exact .inr (.inl ⟨rfl, by rw [HNN.out]; try rfl, HR.out⟩)
          case measure => simp [intOf]
      · by_cases h255 : 255 < b
        · have HV : Hid (sum4 0 [a, b, c, d] 0 = none) := by
            show _ = _
            rw [HSum.out, if_neg (by omega), if_pos h255]
          have g1 : (255 : Int) < (b : Int) := by omega
          clear h255
          generalize (d + a * 16777216 : Nat) = nn
          go_wp2_with fail
          go_ret2
          exact JPost.no HV.out HBw.out
        · have g1 : ¬ (255 : Int) < (b : Int) := by omega
          have HXM2 := HXM.out
          obtain ⟨nn, hnn⟩ : ∃ nn, d + a * 16777216 = nn := ⟨_, rfl⟩
          obtain ⟨pp, hpp⟩ : ∃ pp, b * 65536 = pp := ⟨_, rfl⟩
          obtain ⟨ss, hss⟩ : ∃ ss, d + a * 16777216 + b * 65536 = ss := ⟨_, rfl⟩
          have hor : bits .or .u64 (nn : Int) (pp : Int) = (ss : Int) := or_put (a * 1) d 16 (by omega) (by omega) (x := b) (by omega) (by omega) (by omega) (by omega)
          have hpi : (b : Int) * 65536 = (pp : Int) := by omega
          have p0 : (0 : Int) ≤ (pp : Int) := by omega
          have p1 : (pp : Int) < 4294967296 := by omega
          have hsh : IntKind.wrap .u64 (pp : Int) = (pp : Int) := by rw [IntKind.wrap_u64]; omega
          have HR : Hid (b ≤ 255) := by show _ ≤ _; omega
          have HNN : Hid (nn + b * 65536 = ss) := by show _ = _; omega
          rw [hnn]
          clear h255 HXM2 hss hpp hnn
          go_wp2_with fail
          go_round
          case rel => exact .inr (.inr (.inl ⟨rfl, by rw [HNN.out]; try rfl, q0, HR.out⟩))
          case measure => simp [intOf]
      · by_cases h255 : 255 < c
        · have HV : Hid (sum4 0 [a, b, c, d] 0 = none) := by
            show _ = _
            rw [HSum.out, if_neg (by omega), if_neg (by omega), if_pos h255]
          have g1 : (255 : Int) < (c : Int) := by omega
          clear h255
          generalize (d + a * 16777216 + b * 65536 : Nat) = nn
          go_wp2_with fail
          go_ret2
          exact JPost.no HV.out HBw.out
        · have g1 : ¬ (255 : Int) < (c : Int) := by omega
          have HXM2 := HXM.out
          obtain ⟨nn, hnn⟩ : ∃ nn, d + a * 16777216 + b * 65536 = nn := ⟨_, rfl⟩
          obtain ⟨pp, hpp⟩ : ∃ pp, c * 256 = pp := ⟨_, rfl⟩
          obtain ⟨ss, hss⟩ : ∃ ss, d + a * 16777216 + b * 65536 + c * 256 = ss := ⟨_, rfl⟩
          have hor : bits .or .u64 (nn : Int) (pp : Int) = (ss : Int) := or_put (a * 256 + b * 1) d 8 (by omega) (by omega) (x := c) (by omega) (by omega) (by omega) (by omega)
          have hpi : (c : Int) * 256 = (pp : Int) := by omega
          have p0 : (0 : Int) ≤ (pp : Int) := by omega
          have p1 : (pp : Int) < 4294967296 := by omega
          have hsh : IntKind.wrap .u64 (pp : Int) = (pp : Int) := by rw [IntKind.wrap_u64]; omega
          have HR : Hid (c ≤ 255) := by show _ ≤ _; omega
          have HNN : Hid (nn + c * 256 = ss) := by show _ = _; omega
          rw [hnn]
          clear h255 HXM2 hss hpp hnn
          go_wp2_with fail
          go_round
          case rel => exact .inr (.inr (.inr (⟨rfl, by rw [HNN.out]; try rfl, q0, q1, HR.out⟩)))
          case measure => simp [intOf]
      · have HV : Hid (sum4 0 [a, b, c, d] 0 = some (d + a * 16777216 + b * 65536 + c * 256)) := by
          show _ = _
          rw [HSum.out, if_neg (by omega), if_neg (by omega), if_neg (by omega), if_pos HX.out]
          congr 1
          omega
        have HXM2 := HXM.out
        have hs : d + a * 16777216 + b * 65536 + c * 256 < 4294967296 := by omega
        clear HXM2
        obtain ⟨s, hse⟩ : ∃ s, d + a * 16777216 + b * 65536 + c * 256 = s := ⟨_, rfl⟩
        rw [hse] at HV hs ⊢
        have s0 : (0 : Int) ≤ (s : Int) := by omega
        have s1 : (s : Int) < 4294967296 := by omega
        have s2 : IntKind.wrap .u32 (s : Int) = (s : Int) := by rw [IntKind.wrap_u32]; omega
        clear hs hse
        go_wp2_with fail
        go_ret2
        exact JPost.yes HV.out rfl HBw.out
  · have x2 : ¬ (d : Int) < 256 := by omega
    obtain ⟨qq, hqq⟩ : ∃ qq, d / 256 = qq := ⟨_, rfl⟩
    have x3 : (d : Int) / 256 = (qq : Int) := by omega
    have x4 : ((qq : Int) == 0) = false := by rw [beq_eq_false_iff_ne]; omega
    have x5 : ((qq : Int) != 0) = true := by rw [bne_iff_ne]; omega
    have HV : Hid (sum4 0 [a, b, c, d] 0 = none) := by
      show _ = _
      rw [HSum.out, if_neg hx]
      repeat (first | rfl | (split; rfl))
    clear hx hqq ha hb hc hd
    go_enter Tryd.func23, Tryd.ntmps23
    go_wp2_with fail
    go_ret2
    exact JPost.no HV.out HBw.out
end Go.Proofs.YtghhdccnocpobaaDoor
