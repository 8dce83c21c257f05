/- The walk of next: what bytes begin with. -/
import Derived.Test.YtilamfbpbgcnpaaDoorUtfN
namespace Go.Proofs.YtilamfbpbgcnpaaDoor
open Go.RowKit
set_option linter.unusedVariables false
set_option maxRecDepth 20000
/-- What the reader of one sign answers. -/
def NextPost (l : List UInt8) (w : World) (e : Ending) (w' : World) : Prop :=
  e = .returned (.tuple #[.int .i64 ((nextN l).1 : Int), .int .i64 ((nextN l).2.1 : Int), .bool (nextN l).2.2]) ∧ Below w.heap.size w w'
theorem NextPost.mk' {l : List UInt8} {w w' : World} {c k : Nat} {b : Bool} (h : nextN l = (c, k, b)) {e : Ending} (he : e = .returned (.tuple #[.int .i64 (c : Int), .int .i64 (k : Int), .bool b])) (hb : Below w.heap.size w w') : NextPost l w e w' := by
  unfold NextPost; rw [h]; exact ⟨he, hb⟩
theorem next_none (x : UInt8) (r : List UInt8) (h : st x.toNat = none) : nextN (x :: r) = (65533, 1, false) := by simp only [nextN, h]
/-- How great the number can be, by how many bytes are still to come. -/
def Room (c m : Nat) : Prop := (m = 3 → c < 8) ∧ (m = 2 → c < 512) ∧ (m = 1 → c < 32768) ∧ c < 2097152 ∧ m ≤ 3
theorem st_room {x c n lo hi : Nat} (h : st x = some (c, n, lo, hi)) (hx : x < 256) : Room c n ∧ 128 ≤ lo ∧ lo ≤ 160 ∧ 143 ≤ hi ∧ hi ≤ 191 := by
  unfold st at h
  split at h
  · simp only [Option.some.injEq, Prod.mk.injEq] at h; unfold Room; omega
  · split at h
    · cases h
    · split at h
      · simp only [Option.some.injEq, Prod.mk.injEq] at h; unfold Room; omega
      · split at h
        · simp only [Option.some.injEq, Prod.mk.injEq] at h
          obtain ⟨rfl, rfl, rfl, rfl⟩ := h
          unfold Room
          refine ⟨by omega, ?_, ?_, ?_, ?_⟩ <;> split <;> omega
        · split at h
          · simp only [Option.some.injEq, Prod.mk.injEq] at h
            obtain ⟨rfl, rfl, rfl, rfl⟩ := h
            unfold Room
            refine ⟨by omega, ?_, ?_, ?_, ?_⟩ <;> split <;> omega
          · cases h
theorem Room.step {c m r : Nat} (h : Room c (m + 1)) (hr : r < 64) : Room (c * 64 + r) m := by unfold Room at *; omega
theorem or64 (c r : Nat) (hc : c < 2097152) (hr : r < 64) : bits .or .i64 ((c : Int) * 64) (r : Int) = ((c * 64 + r : Nat) : Int) := by
  have := or_mark (c * 64) r 6 c (by omega) hr
  rw [← this, ← i64_or (c * 64) r (by omega) (by omega)]
  rw [show ((c * 64 : Nat) : Int) = (c : Int) * 64 by omega]
theorem drop_at {l : List UInt8} {i : Nat} (h : i < l.length) : l.drop i = l[i] :: l.drop (i + 1) := (List.drop_eq_getElem_cons h)
set_option maxRecDepth 20000 in
set_option maxHeartbeats 2000000 in
theorem next_calls (v : Value) (l : List UInt8) (w : World) (hv : BRow w v l) (hne : l ≠ []) (hlen : l.length ≤ 100000) :
    Calls Tryd.prog 77 #[v] w fun e w' => NextPost l w e w' := by
  obtain ⟨a, cap, rfl, h1, h2, h3⟩ := hv
  obtain ⟨b, off, rfl, hbl, hc⟩ := h3 hne
  have HC := hid hc
  have hp : 0 < l.length := List.length_pos_iff.2 hne
  have hc0 : w.cell? ⟨b, off, none⟩ = some (.int .u8 (l[0].toNat : Int)) := hc 0 hp
  have HL := hid hlen
  have hp0 : (0 : Int) < (l.length : Int) := by omega
  have hl1 : (l.length : Int) ≤ 100000 := by omega
  have HD : Hid (l = l[0] :: l.drop 1) := by
    show l = _
    have := drop_at hp
    rwa [List.drop_zero] at this
  clear h3 hc hlen h1 h2
  have HP := hid hp
  have hx := byte_lt l[0]
  have HX := hid hx
  clear hx
  cases hst : st l[0].toNat with
  | none =>
    have HE : Hid (nextN l = (65533, 1, false)) := by
      show nextN l = _
      rw [HD.out]; exact next_none _ _ hst
    have HS := hid (fun w => (starting_calls l[0].toNat w HX.out).mono fun e w' h => StPost.of_no hst h)
    clear hst hne HD
    generalize l[0].toNat = x at *
    clear hp
    go_enter Tryd.func77, Tryd.ntmps77
    go_wp2_with fail
    refine (HS.out _).mono ?_
    rintro e w1 ⟨rfl, hb⟩
    have HB := hid (hb.alloc hb.size (.cells #[.int .i64 0, .int .i64 0, .int .u8 0, .int .u8 0] 120))
    clear hb
    go_wp2_with fail
    go_ret3
    exact NextPost.mk' HE.out rfl HB.out
  | some q =>
    obtain ⟨c, n, lo, hi⟩ := q
    have HE : Hid (nextN l = goN c lo hi 1 (l.drop 1) n) := by
      show nextN l = _
      conv => lhs; rw [HD.out]
      exact next_cons _ _ hst
    obtain ⟨hroom, b1, b2, b3, b4⟩ := st_room hst HX.out
    have HS := hid (fun w => (starting_calls l[0].toNat w HX.out).mono fun e w' h => StPost.of_yes hst h)
    have HR := hid hroom
    have HBD := hid (And.intro (And.intro b1 b2) (And.intro b3 b4))
    clear hst hne HD hroom b1 b2 b3 b4
    generalize l[0].toNat = x at *
    clear hp
    go_enter Tryd.func77, Tryd.ntmps77
    go_wp2_with fail
    refine (HS.out _).mono ?_
    rintro e w1 ⟨rfl, hb⟩
    have HB := hid (hb.alloc hb.size (.cells #[.int .i64 (c : Int), .int .i64 (n : Int), .int .u8 (lo : Int), .int .u8 (hi : Int)] 120))
    clear hb
    go_wp2_with fail
    go_quiet (fail)
    have HB2 := hid (below_drewN HB.out nq)
    have hn1 : ((w1.alloc (.cells #[.int .i64 (c : Int), .int .i64 (n : Int), .int .u8 (lo : Int), .int .u8 (hi : Int)] 120)).drewN nq).cell? ⟨w1.heap.size, 1, none⟩ = some (.int .i64 (n : Int)) :=
      ((below_drewN (Below.refl (w1.heap.size + 1) _) nq).cell (p := ⟨w1.heap.size, 1, none⟩) (Nat.lt_succ_self _)).trans (by rw [World.cell?_alloc_at _ _ _ _ rfl]; rfl)
    generalize (w1.alloc (.cells #[.int .i64 (c : Int), .int .i64 (n : Int), .int .u8 (lo : Int), .int .u8 (hi : Int)] 120)).drewN nq = wx at *
    generalize w1.heap.size = B at *
    clear HB HS hc0 HX
    have hn3 : (n : Int) ≤ 3 := by have := HR.out.2.2.2.2; omega
    go_wp2_with fail
    go_loop [2, 7, 8, 9] (fun sg lo hi i => ∃ (k m c lo' hi' : Nat), k + m = n + 1 ∧ 1 ≤ k ∧ k ≤ l.length ∧ i = .int .i64 (k : Int) ∧ sg = .int .i64 (c : Int) ∧ lo = .int .u8 (lo' : Int) ∧ hi = .int .u8 (hi' : Int) ∧ nextN l = goN c lo' hi' k (l.drop k) m ∧ Room c m) (fun _ _ _ i => n + 1 - (intOf i).toNat)
    case atStart => exact ⟨1, n, c, lo, hi, by omega, Nat.le_refl _, HP.out, rfl, rfl, rfl, rfl, HE.out, HR.out⟩
    case round =>
      clear HE HR HBD
      obtain ⟨k, m, c, lo, hi, hkm, hk1, hkl, rfl, rfl, rfl, rfl, he, hr⟩ := hrel
      have HE := hid he
      have HR := hid hr
      have HK := hid (And.intro hkm (And.intro hk1 hkl))
      have c0 : (c : Int) < 2097152 := by have := hr.2.2.2.1; omega
      have k0 : (1 : Int) ≤ (k : Int) := by omega
      have k1 : (k : Int) ≤ (l.length : Int) := by omega
      clear he hr
      cases m with
      | zero =>
        have hkn : ¬ (k : Int) ≤ (n : Int) := by omega
        have HQ : Hid (k = n + 1) := by show k = n + 1; omega
        clear hkm hk1 hkl
        rw [goN] at HE
        go_wp2_with fail
        go_quiet (fail)
        have HB3 := hid (below_drewN HB2.out nq)
        generalize wx.drewN nq = wy at *
        go_wp2_with fail
        go_ret3
        exact NextPost.mk' HE.out (by rw [HQ.out]; go_num) HB3.out
      | succ m =>
        have hkn : (k : Int) ≤ (n : Int) := by omega
        by_cases hend : k = l.length
        · have t0 : ((k : Int) == (l.length : Int)) = true := by rw [beq_iff_eq]; omega
          rw [List.drop_eq_nil_of_le (by omega), goN] at HE
          clear hkm hk1 hkl hend
          go_wp2_with fail
          go_ret3
          exact NextPost.mk' HE.out rfl HB2.out
        · have hlt : k < l.length := by omega
          have t0 : ((k : Int) == (l.length : Int)) = false := by rw [beq_eq_false_iff_ne]; omega
          have k2 : (k : Int) < (l.length : Int) := by omega
          have hck : wx.cell? ⟨b, off + k, none⟩ = some (.int .u8 (l[k].toNat : Int)) := (HB2.out.cell (p := ⟨b, off + k, none⟩) hbl).trans (HC.out k hlt)
          rw [drop_at hlt] at HE
          have hx := byte_lt l[k]
          generalize l[k] = y at *
          clear hkm hk1 hkl hend hlt
          by_cases hbad : y.toNat < lo ∨ hi < y.toNat
          · rw [goN, if_pos hbad] at HE
            by_cases hb1 : y.toNat < lo
            · have t1 : (y.toNat : Int) < (lo : Int) := by omega
              clear hbad hb1 hx
              go_wp2_with fail
              go_ret3
              exact NextPost.mk' HE.out rfl HB2.out
            · have t1 : ¬ (y.toNat : Int) < (lo : Int) := by omega
              have t2 : (hi : Int) < (y.toNat : Int) := by omega
              clear hbad hb1 hx
              go_wp2_with fail
              go_ret3
              exact NextPost.mk' HE.out rfl HB2.out
          · rw [go_step hbad] at HE
            have t1 : ¬ (y.toNat : Int) < (lo : Int) := by omega
            have t2 : ¬ (hi : Int) < (y.toNat : Int) := by omega
            have e1 := u8mask y.toNat 6 hx (by decide)
            rw [show ((2 ^ 6 - 1 : Nat) : Int) = 63 from rfl, show y.toNat % 2 ^ 6 = y.toNat % 64 from rfl] at e1
            have hr6 : y.toNat % 64 < 64 := Nat.mod_lt _ (by decide)
            have e2 := or64 c (y.toNat % 64) (by omega) hr6
            have HR2 := hid (HR.out.step hr6)
            generalize y.toNat % 64 = r at *
            generalize c * 64 + r = c2 at *
            have r0 : (r : Int) < 64 := by omega
            clear hbad hx hr6
            go_wp2_with fail
            go_round
            case rel => exact ⟨k + 1, m, c2, 128, 191, by have := HK.out.1; omega, by omega, by omega, by go_num, rfl, rfl, rfl, HE.out, HR2.out⟩
            case measure => simp [intOf]; omega
end Go.Proofs.YtilamfbpbgcnpaaDoor
