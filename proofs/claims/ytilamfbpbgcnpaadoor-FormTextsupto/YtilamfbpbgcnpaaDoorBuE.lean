/- Texts of one proof, laid behind one another. -/
import Derived.Test.YtilamfbpbgcnpaaDoorUtfOb
import Derived.Test.YtilamfbpbgcnpaaDoorUtfOcb
import Derived.Test.YtilamfbpbgcnpaaDoorUtfOdb
import Derived.Test.YtilamfbpbgcnpaaDoorUtfOeb
import Derived.Test.YtilamfbpbgcnpaaDoorRowWb
import Derived.Test.YtilamfbpbgcnpaaDoorUtfD
import Derived.Test.YtilamfbpbgcnpaaDoorQyS
/- The walk of one, the document's own reader of a sign: e2. -/
namespace Go.Proofs.YtilamfbpbgcnpaaDoor.Bg
open Go.RowKit
set_option linter.unusedVariables false
set_option maxRecDepth 20000
set_option maxRecDepth 20000 in
set_option maxHeartbeats 2000000 in
theorem one_e2 (b off cap p x : Nat) (l : List UInt8) (w : World) (hp : p < l.length) (hlen : l.length ≤ 2500000) (hc : ∀ i (h : i < l.length), w.cell? ⟨b, off + i, none⟩ = some (fb l[i])) (hx : x = l[p].toNat) (h1 : 241 ≤ x) (h2 : x ≤ 243) :
    Calls Tryd.prog 44 #[.slice (some ⟨b, off, none⟩) l.length cap, .int .i64 (p : Int)] w fun e w' => OnePost (l.drop p) w e w' := by
  have hc0 : w.cell? ⟨b, off + p, none⟩ = some (.int .u8 (x : Int)) := by rw [hx]; exact hc p hp
  have HC := hid hc
  have p0 : (p : Int) < (l.length : Int) := by omega
  have l0 : (l.length : Int) ≤ 2500000 := by omega
  have HD := hid (drop_at hp)
  obtain ⟨r, hr⟩ : ∃ r : Nat, r = x - 240 := ⟨_, rfl⟩
  have e1 := i64mask x 3 (by omega) (by decide)
  rw [show ((2 ^ 3 - 1 : Nat) : Int) = 7 from rfl, show x % 2 ^ 3 = r by omega] at e1
  have hs : st x = some (r, 3, 128, 191) := by
    rw [st_e (by omega) (by omega), if_neg (by omega), if_neg (by omega), hr]
  have HR := hid (st_room hs (by omega)).1
  have HE : Hid (nextN (l.drop p) = goN r 128 191 1 (l.drop (p + 1)) 3) := by
    show nextN _ = _
    rw [HD.out]; exact next_cons _ _ (by rw [← hx]; exact hs)
  have r0 : (r : Int) < 64 := by omega
  clear hr hs
  have gb1 : ¬ (x : Int) < 128 := by omega
  have gb2 : (194 : Int) ≤ (x : Int) := by omega
  have gb3 : ¬ (x : Int) ≤ 223 := by omega
  have gb4 : (224 : Int) ≤ (x : Int) := by omega
  have gb5 : ¬ (x : Int) ≤ 239 := by omega
  have gb6 : (240 : Int) ≤ (x : Int) := by omega
  have gb7 : (x : Int) ≤ 244 := by omega
  have t224 : ((x : Int) == 224) = false := by rw [beq_eq_false_iff_ne]; omega
  have t237 : ((x : Int) == 237) = false := by rw [beq_eq_false_iff_ne]; omega
  have t240 : ((x : Int) == 240) = false := by rw [beq_eq_false_iff_ne]; omega
  have t244 : ((x : Int) == 244) = false := by rw [beq_eq_false_iff_ne]; omega
  have HP := hid hp
  clear h1 h2 hc hx HD hp hlen
  go_enter Tryd.func44, Tryd.ntmps44
  go_wp2_with fail
  go_loop [9, 10, 11, 12] (fun sg lo hi i => ∃ (k m c lo' hi' : Nat), k + m = 4 ∧ 1 ≤ k ∧ p + k ≤ l.length ∧ i = .int .i64 (k : Int) ∧ sg = .int .i64 (c : Int) ∧ lo = .int .i64 (lo' : Int) ∧ hi = .int .i64 (hi' : Int) ∧ nextN (l.drop p) = goN c lo' hi' k (l.drop (p + k)) m ∧ Room c m) (fun _ _ _ i => 4 - (intOf i).toNat)
  case atStart => exact ⟨1, 3, r, 128, 191, rfl, Nat.le_refl _, HP.out, rfl, rfl, rfl, rfl, HE.out, HR.out⟩
  case round =>
    clear HE HR hc0 e1 r0 t224 t237 t240 t244 gb1 gb2 gb3 gb4 gb5 gb6 gb7
    obtain ⟨k, m, c, lo, hi, hkm, hk1, hkl, rfl, rfl, rfl, rfl, he, hr⟩ := hrel
    have HE := hid he
    have HR := hid hr
    have HK := hid (And.intro hkm (And.intro hk1 hkl))
    have k0 : (1 : Int) ≤ (k : Int) := by omega
    obtain ⟨j, hj⟩ : ∃ j : Nat, j = p + k := ⟨_, rfl⟩
    have ej : (p : Int) + (k : Int) = (j : Int) := by omega
    have HJ := hid hj
    rw [← hj] at HE hkl
    clear he hr hj
    cases m with
    | zero =>
      have hkn : ¬ (k : Int) ≤ 3 := by omega
      have HQ : Hid (k = 4) := by show k = 4; omega
      clear hkm hk1 hkl
      rw [goN] at HE
      go_wp2_with fail
      go_ret3
      exact OnePost.yes HE.out (by rw [HQ.out]; rfl)
    | succ m =>
      have hkn : (k : Int) ≤ 3 := by omega
      by_cases hend : j = l.length
      · have t0 : (l.length : Int) ≤ (j : Int) := by omega
        rw [show l.drop j = [] from List.drop_eq_nil_of_le (by omega), goN] at HE
        clear hkm hk1 hkl hend
        go_wp2_with fail
        go_ret3
        exact OnePost.no HE.out rfl
      · have hlt : j < l.length := by omega
        have k2 : (j : Int) < (l.length : Int) := by omega
        have hck : w.cell? ⟨b, off + j, none⟩ = some (.int .u8 (l[j].toNat : Int)) := HC.out j hlt
        rw [drop_at hlt] at HE
        have hx := byte_lt l[j]
        generalize l[j] = y at *
        clear hkm hk1 hkl hend hlt
        by_cases hbad : y.toNat < lo ∨ hi < y.toNat
        · rw [goN, if_pos hbad] at HE
          by_cases hb1 : y.toNat < lo
          · have t1 : (y.toNat : Int) < (lo : Int) := by omega
            have z1 : (y.toNat : Int) < 256 := by omega
            clear hbad hb1 hx
            generalize y.toNat = z at *
            go_wp2_with fail
            go_ret3
            exact OnePost.no HE.out rfl
          · have t1 : ¬ (y.toNat : Int) < (lo : Int) := by omega
            have t2 : (hi : Int) < (y.toNat : Int) := by omega
            have z1 : (y.toNat : Int) < 256 := by omega
            clear hbad hb1 hx
            generalize y.toNat = z at *
            go_wp2_with fail
            go_ret3
            exact OnePost.no HE.out rfl
        · rw [go_step hbad] at HE
          have t1 : ¬ (y.toNat : Int) < (lo : Int) := by omega
          have t2 : ¬ (hi : Int) < (y.toNat : Int) := by omega
          have e1 := i64mask y.toNat 6 hx (by decide)
          rw [show ((2 ^ 6 - 1 : Nat) : Int) = 63 from rfl, show y.toNat % 2 ^ 6 = y.toNat % 64 from rfl] at e1
          have hr6 : y.toNat % 64 < 64 := Nat.mod_lt _ (by decide)
          have c0 : (c : Int) ≤ 32767 := by have := HR.out; unfold Room at this; omega
          have e2 := or64 c (y.toNat % 64) (by omega) hr6
          have HR2 := hid (HR.out.step hr6)
          generalize y.toNat % 64 = r at *
          generalize c * 64 + r = c2 at *
          have r0 : (r : Int) < 64 := by omega
          have z1 : (y.toNat : Int) < 256 := by omega
          clear hbad hx hr6
          generalize y.toNat = z at *
          go_wp2_with fail
          go_round
          case rel => exact ⟨k + 1, m, c2, 128, 191, by have := HK.out.1; omega, by omega, by have := HJ.out; omega, by go_num, rfl, rfl, rfl, by rw [← Nat.add_assoc, ← HJ.out]; exact HE.out, HR2.out⟩
          case measure => simp [intOf]; omega
end Go.Proofs.YtilamfbpbgcnpaaDoor.Bg
/- The walk of one, the document's own reader of a sign. -/
namespace Go.Proofs.YtilamfbpbgcnpaaDoor.Bg
open Go.RowKit
set_option linter.unusedVariables false
set_option maxRecDepth 20000
theorem one_calls (v : Value) (l : List UInt8) (p : Nat) (w : World) (hv : BRow w v l) (hp : p < l.length) (hlen : l.length ≤ 2500000) :
    Calls Tryd.prog 44 #[v, .int .i64 (p : Int)] w fun e w' => OnePost (l.drop p) w e w' := by
  obtain ⟨a, cap, rfl, h1, h2, h3⟩ := hv
  obtain ⟨b, off, rfl, hbl, hc⟩ := h3 (by intro h; simp [h] at hp)
  have hx := byte_lt l[p]
  obtain ⟨x, ex⟩ : ∃ x : Nat, x = l[p].toNat := ⟨_, rfl⟩
  rcases (by omega : x ≤ 127 ∨ (128 ≤ x ∧ x ≤ 193) ∨ (194 ≤ x ∧ x ≤ 223) ∨ (224 ≤ x ∧ x ≤ 224) ∨ (225 ≤ x ∧ x ≤ 239 ∧ x ≠ 237) ∨ (237 ≤ x ∧ x ≤ 237) ∨ (240 ≤ x ∧ x ≤ 240) ∨ (241 ≤ x ∧ x ≤ 243) ∨ (244 ≤ x ∧ x ≤ 244) ∨ (245 ≤ x ∧ x ≤ 255)) with h | ⟨h1, h2⟩ | ⟨h1, h2⟩ | ⟨h1, h2⟩ | ⟨h1, h2, h3⟩ | ⟨h1, h2⟩ | ⟨h1, h2⟩ | ⟨h1, h2⟩ | ⟨h1, h2⟩ | ⟨h1, h2⟩
  · exact one_a b off cap p x l w hp hlen hc ex (Nat.zero_le _) h
  · exact one_b b off cap p x l w hp hlen hc ex h1 h2
  · exact one_c b off cap p x l w hp hlen hc ex h1 h2
  · exact one_d1 b off cap p x l w hp hlen hc ex h1 h2
  · exact one_dx b off cap p x l w hp hlen hc ex h1 h2 h3
  · exact one_d3 b off cap p x l w hp hlen hc ex h1 h2
  · exact one_e1 b off cap p x l w hp hlen hc ex h1 h2
  · exact one_e2 b off cap p x l w hp hlen hc ex h1 h2
  · exact one_e3 b off cap p x l w hp hlen hc ex h1 h2
  · exact one_f b off cap p x l w hp hlen hc ex h1 h2
end Go.Proofs.YtilamfbpbgcnpaaDoor.Bg
/- The walks of bytes as signs: Decode, Lossy (the document's own). -/
namespace Go.Proofs.YtilamfbpbgcnpaaDoor.Bg
open Go.RowKit
set_option linter.unusedVariables false
set_option maxRecDepth 20000
theorem one_at {l : List UInt8} {k c n : Nat} {b : Bool} (hq : nextN (l.drop k) = (c, n, b)) {v : Value} {w : World} (hv : BRow w v l) (hk : k < l.length) (hlen : l.length ≤ 2500000) :
    Calls Tryd.prog 44 #[v, .int .i64 (k : Int)] w fun e w' => (∃ d : Nat, e = .returned (.tuple #[.int .i64 (d : Int), .int .i64 (n : Int), .bool b]) ∧ (b = true → d = c)) ∧ w' = w := by
  refine (one_calls v l k w hv hk hlen).mono fun e w' h => ?_
  unfold OnePost at h
  rw [hq] at h
  exact h
set_option maxRecDepth 20000 in
set_option maxHeartbeats 2000000 in
theorem rdecode_calls (v : Value) (l : List UInt8) (w : World) (hv : BRow w v l) (hlen : l.length ≤ 2500000) :
    Calls Tryd.prog 30 #[v] w fun e w' => DecPostUt l w e w' := by
  have HV := hid hv
  have HL := hid hlen
  obtain ⟨a, cap, rfl, h1, h2, h3⟩ := hv
  have hl1 : (l.length : Int) ≤ 2500000 := by omega
  clear h3 hlen h1 h2
  go_enter Tryd.func30, Tryd.ntmps30
  go_wp2
  go_loopw [5, 6] (fun v i wr => ∃ (k : Nat) (o : List Int), k ≤ l.length ∧ i = .int .i64 (k : Int) ∧ IOwn wr w.heap.size v o ∧ Below w.heap.size w wr ∧ DecAt l o k) (fun _ i _ => l.length - (intOf i).toNat)
  case atStart => exact ⟨0, [], Nat.zero_le _, rfl, Own.nil _ _ _ _, Below.refl _ _, DecAt.start l⟩
  case round =>
    obtain ⟨k, o, hk, rfl, ho, hb, hd⟩ := hrel
    have HO := hid ho
    have HB := hid hb
    have HD := hid hd
    have HS := hid hb.size
    clear ho hb hd
    by_cases hlt : k < l.length
    · have HR := hid (HV.out.below HB.out)
      have HK := hid hlt
      have k0 : (0 : Int) ≤ (k : Int) := by omega
      have k1 : (k : Int) < (l.length : Int) := by omega
      clear hlt hk
      rcases hq : nextN (l.drop k) with ⟨c, n, wh⟩
      have HQ := hid hq
      obtain ⟨f1, f2, f3⟩ := next_fits HK.out hq
      have HF := hid (And.intro f1 f2)
      have n0 : (1 : Int) ≤ (n : Int) := by omega
      have n1 : (k : Int) + (n : Int) ≤ (l.length : Int) := by omega
      have HC := hid (one_at hq HR.out HK.out HL.out)
      clear hq f1 f2 f3
      go_wp2_with fail
      refine HC.out.mono ?_
      rintro e w1 ⟨⟨d, rfl, hd⟩, rfl⟩
      cases wh with
      | false =>
        have HX := hid (HD.out.fail HK.out HQ.out)
        clear hd
        go_wp2_with fail
        go_ret3
        exact DecPostUt.no HX.out.1 HX.out.2 HB.out
      | true =>
        obtain rfl := hd rfl
        clear hd
        have HX := hid (HD.out.step HK.out HQ.out)
        obtain ⟨v2, w2, hr, ho2, hg⟩ := appendI_run (HO.out.alloc (.cells #[.int .i64 (d : Int)] 3)) (one_int w1 (d : Int)) (by have := HD.out.2.2; have := HL.out; have := HK.out; simp; omega) (by have := HS.out; simp; omega)
        have HO2 := hid ho2
        have HB2 := hid ((HB.out.alloc HS.out _).grown hg (by have := HS.out; simp; omega) (Own.lt HO.out))
        clear ho2 hg
        go_wp2_with (at_builtin; go_must (refine wpList_append_run hr rfl _ _ rfl rfl rfl rfl ?_))
        go_roundw
        case rel => exact ⟨k + n, o ++ [(d : Int)], HF.out.2, by go_num, HO2.out, HB2.out, HX.out⟩
        case measure => have := HF.out; simp [intOf]; omega
    · have HX := hid (HD.out.done hlt)
      have HR := hid HO.out.row
      go_wp2_with fail
      go_ret3
      exact DecPostUt.yes HX.out HR.out HB.out
set_option maxRecDepth 20000 in
set_option maxHeartbeats 2000000 in
theorem rlossy_calls (v : Value) (l : List UInt8) (w : World) (hv : BRow w v l) (hlen : l.length ≤ 2500000) :
    Calls Tryd.prog 35 #[v] w fun e w' => (∃ v', e = .returned v' ∧ IOwn w' w.heap.size v' (lossyL l)) ∧ Below w.heap.size w w' := by
  have HV := hid hv
  have HL := hid hlen
  obtain ⟨a, cap, rfl, h1, h2, h3⟩ := hv
  have hl1 : (l.length : Int) ≤ 2500000 := by omega
  clear h3 hlen h1 h2
  go_enter Tryd.func35, Tryd.ntmps35
  go_wp2
  go_loopw [3, 4] (fun v i wr => ∃ (k : Nat) (o : List Int), k ≤ l.length ∧ i = .int .i64 (k : Int) ∧ IOwn wr w.heap.size v o ∧ Below w.heap.size w wr ∧ LosAt l o k) (fun _ i _ => l.length - (intOf i).toNat)
  case atStart => exact ⟨0, [], Nat.zero_le _, rfl, Own.nil _ _ _ _, Below.refl _ _, LosAt.start l⟩
  case round =>
    obtain ⟨k, o, hk, rfl, ho, hb, hd⟩ := hrel
    have HO := hid ho
    have HB := hid hb
    have HD := hid hd
    have HS := hid hb.size
    clear ho hb hd
    by_cases hlt : k < l.length
    · have HR := hid (HV.out.below HB.out)
      have HK := hid hlt
      have k0 : (0 : Int) ≤ (k : Int) := by omega
      have k1 : (k : Int) < (l.length : Int) := by omega
      clear hlt hk
      rcases hq : nextN (l.drop k) with ⟨c, n, wh⟩
      have HQ := hid hq
      obtain ⟨f1, f2, f3⟩ := next_fits HK.out hq
      have HF := hid (And.intro f1 f2)
      have n0 : (1 : Int) ≤ (n : Int) := by omega
      have n1 : (k : Int) + (n : Int) ≤ (l.length : Int) := by omega
      have HC := hid (one_at hq HR.out HK.out HL.out)
      clear hq f1 f2 f3
      go_wp2_with fail
      refine HC.out.mono ?_
      rintro e w1 ⟨⟨d, rfl, hd⟩, rfl⟩
      have HX := hid (HD.out.step HK.out HQ.out)
      cases wh with
      | false =>
        obtain rfl := next_repair HQ.out
        clear hd
        obtain ⟨v2, w2, hr, ho2, hg⟩ := appendI_run (HO.out.alloc (.cells #[.int .i64 65533] 3)) (one_int w1 65533) (by have := HD.out.2; have := HL.out; have := HK.out; simp; omega) (by have := HS.out; simp; omega)
        have HO2 := hid ho2
        have HB2 := hid ((HB.out.alloc HS.out _).grown hg (by have := HS.out; simp; omega) (Own.lt HO.out))
        clear ho2 hg
        go_wp2_with (at_builtin; go_must (refine wpList_append_run hr rfl _ _ rfl rfl rfl rfl ?_))
        go_roundw
        case rel => exact ⟨k + n, o ++ [65533], HF.out.2, by go_num, HO2.out, HB2.out, HX.out⟩
        case measure => have := HF.out; simp [intOf]; omega
      | true =>
        obtain rfl := hd rfl
        clear hd
        obtain ⟨v2, w2, hr, ho2, hg⟩ := appendI_run (HO.out.alloc (.cells #[.int .i64 (d : Int)] 3)) (one_int w1 (d : Int)) (by have := HD.out.2; have := HL.out; have := HK.out; simp; omega) (by have := HS.out; simp; omega)
        have HO2 := hid ho2
        have HB2 := hid ((HB.out.alloc HS.out _).grown hg (by have := HS.out; simp; omega) (Own.lt HO.out))
        clear ho2 hg
        go_wp2_with (at_builtin; go_must (refine wpList_append_run hr rfl _ _ rfl rfl rfl rfl ?_))
        go_roundw
        case rel => exact ⟨k + n, o ++ [(d : Int)], HF.out.2, by go_num, HO2.out, HB2.out, HX.out⟩
        case measure => have := HF.out; simp [intOf]; omega
    · have HX := hid (HD.out.done hlt)
      go_wp2_with fail
      go_ret
      exact ⟨⟨_, rfl, by rw [HX.out]; exact HO.out⟩, HB.out⟩
end Go.Proofs.YtilamfbpbgcnpaaDoor.Bg
/- The statements' utf: are all names and values UTF-8? -/
namespace Go.Proofs.YtilamfbpbgcnpaaDoor
open Go.RowKit Go.Shelf
set_option linter.unusedVariables false
set_option maxRecDepth 20000
set_option linter.unusedSimpArgs false
def u8B (x : List UInt8) : Bool := (decL x).isSome
theorem u8_iff {x : List UInt8} : u8B x = true ↔ U8 x := by
  unfold u8B U8
  exact Option.isSome_iff_exists
def utfOne (p : Pr) : Bool := u8B (p.1 ++ p.2) && u8B p.1
def utfB (l : List Pr) : Bool := l.all utfOne
theorem utf_iff {l : List Pr} : utfB l = true ↔ ∀ p ∈ l, U8 p.1 ∧ U8 p.2 := by
  unfold utfB
  rw [List.all_eq_true]
  refine ⟨fun h p hp => ?_, fun h p hp => ?_⟩
  · have := h p hp
    unfold utfOne at this
    rw [Bool.and_eq_true, u8_iff, u8_iff] at this
    exact ⟨this.2, this.2.right this.1⟩
  · unfold utfOne
    rw [Bool.and_eq_true, u8_iff, u8_iff]
    exact ⟨(h p hp).1.app (h p hp).2, (h p hp).1⟩
def errI (x : List UInt8) : Int := if u8B x = true then 0 else 4
theorem errI_yes {x : List UInt8} (h : u8B x = true) : errI x = 0 := if_pos h
theorem errI_no {x : List UInt8} (h : u8B x = false) : errI x = 4 := if_neg (by rw [h]; decide)
theorem errD_eq (x : List UInt8) : errD x = errI x := by
  unfold errD errI u8B
  cases decL x <;> simp
theorem dec_calls (v : Value) (x : List UInt8) (w : World) (hv : BRow w v x) (hlen : x.length ≤ 2500000) :
    Calls Tryd.prog 30 #[v] w fun e w' => (∃ u k, e = .returned (.tuple #[u, .int .i64 k, .int .i64 (errI x)])) ∧ Below w.heap.size w w' := by
  refine (Bg.rdecode_calls v x w hv hlen).mono ?_
  rintro e w' ⟨⟨u, rfl, _⟩, hb⟩
  exact ⟨⟨u, _, by rw [errD_eq]⟩, hb⟩
theorem str_app (a b : List UInt8) : strOf a ++ strOf b = strOf (a ++ b) := by
  have h : ∀ x y : ByteArray, x.data = y.data → x = y := fun x y h => by cases x; cases y; cases h; rfl
  refine h _ _ ?_
  rw [ByteArray.data_append]
  apply Array.ext'
  simp [strOf]
set_option maxHeartbeats 4000000 in
theorem utf_calls (v : Value) (l : List Pr) (w : World) (hv : PRow w v l) (hsz : ∀ p ∈ l, p.1.length ≤ 1100000 ∧ p.2.length ≤ 1100000) :
    Calls Tryd.prog 17 #[v] w fun e w' => e = .returned (.bool (utfB l)) ∧ Below w.heap.size w w' := by
  have HS := hid hsz
  obtain ⟨a, cap, rfl, h1, h2, h3⟩ := hv
  have H3 := hid h3
  clear h3 hsz
  unfold maxLen at h2
  go_enter Tryd.func17, Tryd.ntmps17
  go_wp2_with fail
  go_loopw [3] (fun i wr => ∃ k : Nat, k ≤ l.length ∧ i = .int .i64 k ∧ (l.take k).all utfOne = true ∧ Below w.heap.size w wr) (fun i _ => l.length - (intOf i).toNat)
  case atStart => exact ⟨0, Nat.zero_le _, rfl, rfl, Below.refl _ _⟩
  case round =>
    obtain ⟨k, hk, rfl, hall, hb⟩ := hrel
    have HB := hid hb
    have HAll := hid hall
    clear hall
    by_cases hlt : k < l.length
    · obtain ⟨b, off, rfl, hbl, hc⟩ := H3.out (by intro h; simp [h] at hlt)
      have cf := fun {W : World} (hw : Below w.heap.size w W) => And.intro ((hw.cell (p := ⟨b, off + 2 * k, none⟩) hbl).trans (hc _ _ (flatP_at l k hlt).1)) ((hw.cell (p := ⟨b, off + (2 * k + 1), none⟩) hbl).trans (hc _ _ (flatP_at l k hlt).2))
      simp only [Nat.mul_comm 2 k, ← Nat.add_assoc] at cf
      have HM := hid (HS.out l[k] (List.getElem_mem hlt))
      have HT : Hid ((l.take (k + 1)).all utfOne = utfOne l[k]) := hid (by rw [List.take_succ_eq_append_getElem hlt, List.all_append, HAll.out]; simp)
      have HF : Hid (utfOne l[k] = false → utfB l = false) := hid (fun h => by
        unfold utfB
        rw [List.all_eq_false]
        exact ⟨l[k], List.getElem_mem hlt, by rw [h]; decide⟩)
      have k0 : (0 : Int) ≤ (k : Int) := by omega
      have k1 : (k : Int) < (l.length : Int) := by omega
      clear hc
      generalize l[k] = c at *
      obtain ⟨c1, c2⟩ := c
      obtain ⟨ck0, ck1⟩ := cf hb
      have CF := hid (fun W hw => cf (W := W) hw)
      clear cf hb
      have hap := str_app c1 c2
      have hz : ¬ 9223372036854775807 < (strOf c1).size + (strOf c2).size := by show ¬ 9223372036854775807 < c1.length + c2.length; have := HM.out; simp only at this; omega
      have hcv := Lib.run_convert_string_bytes (P := Tryd.prog) wr.drew 9 45 5 (strOf (c1 ++ c2)) Tryd.underlying9 Tryd.underlying45 Tryd.underlying5
      have HBw := hid (HB.out.drew.trans ((bytesW_below wr.drew (strOf (c1 ++ c2))).mono HB.out.size))
      have HR := hid (bytesW_row wr.drew (strOf (c1 ++ c2)) (by show (c1 ++ c2).length ≤ _; have := HM.out; rw [List.length_append]; simp only at this; omega))
      have HD := hid (fun v W hv => dec_calls v (c1 ++ c2) W hv (by have := HM.out; rw [List.length_append]; simp only at this; omega))
      generalize Lib.bytesWorld wr.drew 5 (strOf (c1 ++ c2)) = w1 at *
      go_wp2_with fail
      go_region_with ((go_at_call 30; refine (HD.out _ _ HR.out).mono ?_; rintro e w2 ⟨⟨u1, k1, rfl⟩, hb2⟩; have HB2 := hid (HBw.out.trans (hb2.mono HBw.out.size)); clear hb2))
      all_goals
        clear hcv ck0 ck1 hap hz
        have dk := (CF.out w2 HB2.out).1
        have hcv2 := Lib.run_convert_string_bytes (P := Tryd.prog) w2 9 45 5 (strOf c1) Tryd.underlying9 Tryd.underlying45 Tryd.underlying5
        have HBw2 := hid (HB2.out.trans ((bytesW_below w2 (strOf c1)).mono HB2.out.size))
        have HR2 := hid (bytesW_row w2 (strOf c1) (by show c1.length ≤ _; have := HM.out; (try simp only at this); omega))
        have HD2 := hid (fun v W hv => dec_calls v c1 W hv (by have := HM.out; (try simp only at this); omega))
        generalize Lib.bytesWorld w2 5 (strOf c1) = w3 at *
        go_wp2_with fail
        clear hcv2 dk
        refine (HD2.out _ _ HR2.out).mono ?_
        rintro e w4 ⟨⟨u2, k2, rfl⟩, hb4⟩
        have HB4 := hid (HBw2.out.trans (hb4.mono HBw2.out.size))
        clear hb4
        cases hu1 : u8B (c1 ++ c2) with
        | true =>
          have e1 := errI_yes hu1
          cases hu2 : u8B c1 with
          | true =>
            have e2 := errI_yes hu2
            have HO : Hid (utfOne (c1, c2) = true) := hid (by unfold utfOne; rw [hu1, hu2]; rfl)
            clear hu1 hu2
            go_wp2_with fail
            go_roundw
            case rel => exact ⟨k + 1, by omega, by go_num, by rw [HT.out, HO.out], HB4.out⟩
            case measure => simp [intOf]; omega
          | false =>
            have e2 := errI_no hu2
            have HO : Hid (utfOne (c1, c2) = false) := hid (by unfold utfOne; rw [hu1, hu2]; rfl)
            clear hu1 hu2
            go_wp2_with fail
            go_ret
            exact ⟨by rw [HF.out HO.out]; rfl, HB4.out⟩
        | false =>
          have e1 := errI_no hu1
          have HO : Hid (utfOne (c1, c2) = false) := hid (by unfold utfOne; rw [hu1]; rfl)
          clear hu1
          go_wp2_with fail
          go_ret
          exact ⟨by rw [HF.out HO.out]; rfl, HB4.out⟩
    · have hkl : k = l.length := by omega
      subst hkl
      have HE : Hid (utfB l = true) := hid (by have := HAll.out; rwa [List.take_length] at this)
      clear hb
      go_wp2_with fail
      go_ret
      exact ⟨by rw [HE.out]; rfl, HB.out⟩
end Go.Proofs.YtilamfbpbgcnpaaDoor
