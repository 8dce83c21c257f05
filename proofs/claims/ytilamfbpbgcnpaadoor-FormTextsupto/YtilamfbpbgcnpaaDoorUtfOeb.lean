/- The walk of one, the document's own reader of a sign: e1 and e3. -/
import Derived.Test.YtilamfbpbgcnpaaDoorUtfOb
namespace Go.Proofs.YtilamfbpbgcnpaaDoor.Bg
open Go.RowKit
set_option linter.unusedVariables false
set_option maxRecDepth 20000
set_option maxRecDepth 20000 in
set_option maxHeartbeats 2000000 in
theorem one_e1 (b off cap p x : Nat) (l : List UInt8) (w : World) (hp : p < l.length) (hlen : l.length ≤ 2500000) (hc : ∀ i (h : i < l.length), w.cell? ⟨b, off + i, none⟩ = some (fb l[i])) (hx : x = l[p].toNat) (h1 : 240 ≤ x) (h2 : x ≤ 240) :
    Calls Tryd.prog 44 #[.slice (some ⟨b, off, none⟩) l.length cap, .int .i64 (p : Int)] w fun e w' => OnePost (l.drop p) w e w' := by
  have hc0 : w.cell? ⟨b, off + p, none⟩ = some (.int .u8 (x : Int)) := by rw [hx]; exact hc p hp
  have HC := hid hc
  have p0 : (p : Int) < (l.length : Int) := by omega
  have l0 : (l.length : Int) ≤ 2500000 := by omega
  have HD := hid (drop_at hp)
  obtain ⟨r, hr⟩ : ∃ r : Nat, r = x - 240 := ⟨_, rfl⟩
  have e1 := i64mask x 3 (by omega) (by decide)
  rw [show ((2 ^ 3 - 1 : Nat) : Int) = 7 from rfl, show x % 2 ^ 3 = r by omega] at e1
  have hs : st x = some (r, 3, 144, 191) := by
    rw [st_e (by omega) (by omega), if_pos (by omega), if_neg (by omega), hr]
  have HR := hid (st_room hs (by omega)).1
  have HE : Hid (nextN (l.drop p) = goN r 144 191 1 (l.drop (p + 1)) 3) := by
    show nextN _ = _
    rw [HD.out]; exact next_cons _ _ (by rw [← hx]; exact hs)
  have r0 : (r : Int) < 64 := by omega
  clear hr hs
  have gb1 : ¬ (x : Int) < 128 := by omega
  have gb2 : (194 : Int) ≤ (x : Int) := by omega
  have gb3 : ¬ (x : Int) ≤ 223 := by omega
  have gb4 : (224 : Int) ≤ (x : Int) := by omega
  have gb5 : ¬ (x : Int) ≤ 239 := by omega
  have gb6 : (240 : Int) ≤ (x : Int) := by omega
  have gb7 : (x : Int) ≤ 244 := by omega
  have t224 : ((x : Int) == 224) = false := by rw [beq_eq_false_iff_ne]; omega
  have t237 : ((x : Int) == 237) = false := by rw [beq_eq_false_iff_ne]; omega
  have t240 : ((x : Int) == 240) = true := by rw [beq_iff_eq]; omega
  have t244 : ((x : Int) == 244) = false := by rw [beq_eq_false_iff_ne]; omega
  have HP := hid hp
  clear h1 h2 hc hx HD hp hlen
  go_enter Tryd.func44, Tryd.ntmps44
  go_wp2_with fail
  go_loop [9, 10, 11, 12] (fun sg lo hi i => ∃ (k m c lo' hi' : Nat), k + m = 4 ∧ 1 ≤ k ∧ p + k ≤ l.length ∧ i = .int .i64 (k : Int) ∧ sg = .int .i64 (c : Int) ∧ lo = .int .i64 (lo' : Int) ∧ hi = .int .i64 (hi' : Int) ∧ nextN (l.drop p) = goN c lo' hi' k (l.drop (p + k)) m ∧ Room c m) (fun _ _ _ i => 4 - (intOf i).toNat)
  case atStart => exact ⟨1, 3, r, 144, 191, rfl, Nat.le_refl _, HP.out, rfl, rfl, rfl, rfl, HE.out, HR.out⟩
  case round =>
    clear HE HR hc0 e1 r0 t224 t237 t240 t244 gb1 gb2 gb3 gb4 gb5 gb6 gb7
    obtain ⟨k, m, c, lo, hi, hkm, hk1, hkl, rfl, rfl, rfl, rfl, he, hr⟩ := hrel
    have HE := hid he
    have HR := hid hr
    have HK := hid (And.intro hkm (And.intro hk1 hkl))
    have k0 : (1 : Int) ≤ (k : Int) := by omega
    obtain ⟨j, hj⟩ : ∃ j : Nat, j = p + k := ⟨_, rfl⟩
    have ej : (p : Int) + (k : Int) = (j : Int) := by omega
    have HJ := hid hj
    rw [← hj] at HE hkl
    clear he hr hj
    cases m with
    | zero =>
      have hkn : ¬ (k : Int) ≤ 3 := by omega
      have HQ : Hid (k = 4) := by show k = 4; omega
      clear hkm hk1 hkl
      rw [goN] at HE
      go_wp2_with fail
      go_ret3
      exact OnePost.yes HE.out (by rw [HQ.out]; rfl)
    | succ m =>
      have hkn : (k : Int) ≤ 3 := by omega
      by_cases hend : j = l.length
      · have t0 : (l.length : Int) ≤ (j : Int) := by omega
        rw [show l.drop j = [] from List.drop_eq_nil_of_le (by omega), goN] at HE
        clear hkm hk1 hkl hend
        go_wp2_with fail
        go_ret3
        exact OnePost.no HE.out rfl
      · have hlt : j < l.length := by omega
        have k2 : (j : Int) < (l.length : Int) := by omega
        have hck : w.cell? ⟨b, off + j, none⟩ = some (.int .u8 (l[j].toNat : Int)) := HC.out j hlt
        rw [drop_at hlt] at HE
        have hx := byte_lt l[j]
        generalize l[j] = y at *
        clear hkm hk1 hkl hend hlt
        by_cases hbad : y.toNat < lo ∨ hi < y.toNat
        · rw [goN, if_pos hbad] at HE
          by_cases hb1 : y.toNat < lo
          · have t1 : (y.toNat : Int) < (lo : Int) := by omega
            have z1 : (y.toNat : Int) < 256 := by omega
            clear hbad hb1 hx
            generalize y.toNat = z at *
            go_wp2_with fail
            go_ret3
            exact OnePost.no HE.out rfl
          · have t1 : ¬ (y.toNat : Int) < (lo : Int) := by omega
            have t2 : (hi : Int) < (y.toNat : Int) := by omega
            have z1 : (y.toNat : Int) < 256 := by omega
            clear hbad hb1 hx
            generalize y.toNat = z at *
            go_wp2_with fail
            go_ret3
            exact OnePost.no HE.out rfl
        · rw [go_step hbad] at HE
          have t1 : ¬ (y.toNat : Int) < (lo : Int) := by omega
          have t2 : ¬ (hi : Int) < (y.toNat : Int) := by omega
          have e1 := i64mask y.toNat 6 hx (by decide)
          rw [show ((2 ^ 6 - 1 : Nat) : Int) = 63 from rfl, show y.toNat % 2 ^ 6 = y.toNat % 64 from rfl] at e1
          have hr6 : y.toNat % 64 < 64 := Nat.mod_lt _ (by decide)
          have c0 : (c : Int) ≤ 32767 := by have := HR.out; unfold Room at this; omega
          have e2 := or64 c (y.toNat % 64) (by omega) hr6
          have HR2 := hid (HR.out.step hr6)
          generalize y.toNat % 64 = r at *
          generalize c * 64 + r = c2 at *
          have r0 : (r : Int) < 64 := by omega
          have z1 : (y.toNat : Int) < 256 := by omega
          clear hbad hx hr6
          generalize y.toNat = z at *
          go_wp2_with fail
          go_round
          case rel => exact ⟨k + 1, m, c2, 128, 191, by have := HK.out.1; omega, by omega, by have := HJ.out; omega, by go_num, rfl, rfl, rfl, by rw [← Nat.add_assoc, ← HJ.out]; exact HE.out, HR2.out⟩
          case measure => simp [intOf]; omega
set_option maxRecDepth 20000 in
set_option maxHeartbeats 2000000 in
theorem one_e3 (b off cap p x : Nat) (l : List UInt8) (w : World) (hp : p < l.length) (hlen : l.length ≤ 2500000) (hc : ∀ i (h : i < l.length), w.cell? ⟨b, off + i, none⟩ = some (fb l[i])) (hx : x = l[p].toNat) (h1 : 244 ≤ x) (h2 : x ≤ 244) :
    Calls Tryd.prog 44 #[.slice (some ⟨b, off, none⟩) l.length cap, .int .i64 (p : Int)] w fun e w' => OnePost (l.drop p) w e w' := by
  have hc0 : w.cell? ⟨b, off + p, none⟩ = some (.int .u8 (x : Int)) := by rw [hx]; exact hc p hp
  have HC := hid hc
  have p0 : (p : Int) < (l.length : Int) := by omega
  have l0 : (l.length : Int) ≤ 2500000 := by omega
  have HD := hid (drop_at hp)
  obtain ⟨r, hr⟩ : ∃ r : Nat, r = x - 240 := ⟨_, rfl⟩
  have e1 := i64mask x 3 (by omega) (by decide)
  rw [show ((2 ^ 3 - 1 : Nat) : Int) = 7 from rfl, show x % 2 ^ 3 = r by omega] at e1
  have hs : st x = some (r, 3, 128, 143) := by
    rw [st_e (by omega) (by omega), if_neg (by omega), if_pos (by omega), hr]
  have HR := hid (st_room hs (by omega)).1
  have HE : Hid (nextN (l.drop p) = goN r 128 143 1 (l.drop (p + 1)) 3) := by
    show nextN _ = _
    rw [HD.out]; exact next_cons _ _ (by rw [← hx]; exact hs)
  have r0 : (r : Int) < 64 := by omega
  clear hr hs
  have gb1 : ¬ (x : Int) < 128 := by omega
  have gb2 : (194 : Int) ≤ (x : Int) := by omega
  have gb3 : ¬ (x : Int) ≤ 223 := by omega
  have gb4 : (224 : Int) ≤ (x : Int) := by omega
  have gb5 : ¬ (x : Int) ≤ 239 := by omega
  have gb6 : (240 : Int) ≤ (x : Int) := by omega
  have gb7 : (x : Int) ≤ 244 := by omega
  have t224 : ((x : Int) == 224) = false := by rw [beq_eq_false_iff_ne]; omega
  have t237 : ((x : Int) == 237) = false := by rw [beq_eq_false_iff_ne]; omega
  have t240 : ((x : Int) == 240) = false := by rw [beq_eq_false_iff_ne]; omega
  have t244 : ((x : Int) == 244) = true := by rw [beq_iff_eq]; omega
  have HP := hid hp
  clear h1 h2 hc hx HD hp hlen
  go_enter Tryd.func44, Tryd.ntmps44
  go_wp2_with fail
  go_loop [9, 10, 11, 12] (fun sg lo hi i => ∃ (k m c lo' hi' : Nat), k + m = 4 ∧ 1 ≤ k ∧ p + k ≤ l.length ∧ i = .int .i64 (k : Int) ∧ sg = .int .i64 (c : Int) ∧ lo = .int .i64 (lo' : Int) ∧ hi = .int .i64 (hi' : Int) ∧ nextN (l.drop p) = goN c lo' hi' k (l.drop (p + k)) m ∧ Room c m) (fun _ _ _ i => 4 - (intOf i).toNat)
  case atStart => exact ⟨1, 3, r, 128, 143, rfl, Nat.le_refl _, HP.out, rfl, rfl, rfl, rfl, HE.out, HR.out⟩
  case round =>
    clear HE HR hc0 e1 r0 t224 t237 t240 t244 gb1 gb2 gb3 gb4 gb5 gb6 gb7
    obtain ⟨k, m, c, lo, hi, hkm, hk1, hkl, rfl, rfl, rfl, rfl, he, hr⟩ := hrel
    have HE := hid he
    have HR := hid hr
    have HK := hid (And.intro hkm (And.intro hk1 hkl))
    have k0 : (1 : Int) ≤ (k : Int) := by omega
    obtain ⟨j, hj⟩ : ∃ j : Nat, j = p + k := ⟨_, rfl⟩
    have ej : (p : Int) + (k : Int) = (j : Int) := by omega
    have HJ := hid hj
    rw [← hj] at HE hkl
    clear he hr hj
    cases m with
    | zero =>
      have hkn : ¬ (k : Int) ≤ 3 := by omega
      have HQ : Hid (k = 4) := by show k = 4; omega
      clear hkm hk1 hkl
      rw [goN] at HE
      go_wp2_with fail
      go_ret3
      exact OnePost.yes HE.out (by rw [HQ.out]; rfl)
    | succ m =>
      have hkn : (k : Int) ≤ 3 := by omega
      by_cases hend : j = l.length
      · have t0 : (l.length : Int) ≤ (j : Int) := by omega
        rw [show l.drop j = [] from List.drop_eq_nil_of_le (by omega), goN] at HE
        clear hkm hk1 hkl hend
        go_wp2_with fail
        go_ret3
        exact OnePost.no HE.out rfl
      · have hlt : j < l.length := by omega
        have k2 : (j : Int) < (l.length : Int) := by omega
        have hck : w.cell? ⟨b, off + j, none⟩ = some (.int .u8 (l[j].toNat : Int)) := HC.out j hlt
        rw [drop_at hlt] at HE
        have hx := byte_lt l[j]
        generalize l[j] = y at *
        clear hkm hk1 hkl hend hlt
        by_cases hbad : y.toNat < lo ∨ hi < y.toNat
        · rw [goN, if_pos hbad] at HE
          by_cases hb1 : y.toNat < lo
          · have t1 : (y.toNat : Int) < (lo : Int) := by omega
            have z1 : (y.toNat : Int) < 256 := by omega
            clear hbad hb1 hx
            generalize y.toNat = z at *
            go_wp2_with fail
            go_ret3
            exact OnePost.no HE.out rfl
          · have t1 : ¬ (y.toNat : Int) < (lo : Int) := by omega
            have t2 : (hi : Int) < (y.toNat : Int) := by omega
            have z1 : (y.toNat : Int) < 256 := by omega
            clear hbad hb1 hx
            generalize y.toNat = z at *
            go_wp2_with fail
            go_ret3
            exact OnePost.no HE.out rfl
        · rw [go_step hbad] at HE
          have t1 : ¬ (y.toNat : Int) < (lo : Int) := by omega
          have t2 : ¬ (hi : Int) < (y.toNat : Int) := by omega
          have e1 := i64mask y.toNat 6 hx (by decide)
          rw [show ((2 ^ 6 - 1 : Nat) : Int) = 63 from rfl, show y.toNat % 2 ^ 6 = y.toNat % 64 from rfl] at e1
          have hr6 : y.toNat % 64 < 64 := Nat.mod_lt _ (by decide)
          have c0 : (c : Int) ≤ 32767 := by have := HR.out; unfold Room at this; omega
          have e2 := or64 c (y.toNat % 64) (by omega) hr6
          have HR2 := hid (HR.out.step hr6)
          generalize y.toNat % 64 = r at *
          generalize c * 64 + r = c2 at *
          have r0 : (r : Int) < 64 := by omega
          have z1 : (y.toNat : Int) < 256 := by omega
          clear hbad hx hr6
          generalize y.toNat = z at *
          go_wp2_with fail
          go_round
          case rel => exact ⟨k + 1, m, c2, 128, 191, by have := HK.out.1; omega, by omega, by have := HJ.out; omega, by go_num, rfl, rfl, rfl, by rw [← Nat.add_assoc, ← HJ.out]; exact HE.out, HR2.out⟩
          case measure => simp [intOf]; omega
end Go.Proofs.YtilamfbpbgcnpaaDoor.Bg
