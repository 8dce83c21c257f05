/- The walk of the statement 'there and back'. -/
import Derived.Test.YtpjajiilgojbgaaPunyU
namespace Go.Proofs.Ytpjajiilgojbgaa
open Go.RowKit
set_option linter.unusedVariables false
/-- The bytes of a text, some of them raised, in a block. -/
def BytesAt (w : World) (g : Nat) (X : List UInt8) (P k : Nat) : Prop := g < w.heap.size ∧ (∀ j c, X[j]? = some c → w.cell? ⟨g, j, none⟩ = some (fb (if P ≤ j ∧ j < k then up c else c))) ∧ ∀ j, j < X.length → w.frozen? ⟨g, j, none⟩ = false
theorem BytesAt.cell {w : World} {g : Nat} {X : List UInt8} {P k : Nat} (h : BytesAt w g X P k) {c : UInt8} (hc : X[k]? = some c) : w.cell? ⟨g, k, none⟩ = some (.int .u8 (c.toNat : Int)) := by
  rw [h.2.1 k c hc, if_neg (by omega)]
theorem BytesAt.keep {w : World} {g : Nat} {X : List UInt8} {P k : Nat} (h : BytesAt w g X P k) {c : UInt8} (hc : X[k]? = some c) (hu : up c = c) : BytesAt w g X P (k + 1) := by
  refine ⟨h.1, fun j d hd => ?_, h.2.2⟩
  rw [h.2.1 j d hd]
  by_cases hjk : j = k
  · subst hjk
    rw [hc] at hd
    injection hd with hd
    subst hd
    rw [if_neg (by omega)]
    split
    · rw [hu]
    · rfl
  · by_cases hp : P ≤ j ∧ j < k
    · rw [if_pos hp, if_pos (by omega)]
    · rw [if_neg hp, if_neg (by omega)]
theorem BytesAt.put {w : World} {g : Nat} {X : List UInt8} {P k : Nat} (h : BytesAt w g X P k) (hP : P ≤ k) {c : UInt8} (hc : X[k]? = some c) : BytesAt (w.setCell ⟨g, k, none⟩ (fb (up c))) g X P (k + 1) := by
  refine ⟨by simp [World.setCell]; exact h.1, fun j d hd => ?_, fun j hj => (World.frozen?_setCell _ _ _ _).trans (h.2.2 j hj)⟩
  by_cases hjk : j = k
  · subst hjk
    rw [hc] at hd
    injection hd with hd
    subst hd
    rw [World.cell?_setCell_same _ _ _ (h.cell hc), if_pos (by omega)]
  · rw [World.cell?_setCell_other _ _ _ _ (by intro e; injection e with e1 e2; exact hjk e2.symm), h.2.1 j d hd]
    by_cases hp : P ≤ j ∧ j < k
    · rw [if_pos hp, if_pos (by omega)]
    · rw [if_neg hp, if_neg (by omega)]
theorem BytesAt.made (w : World) (l : List UInt8) (P : Nat) : BytesAt (Lib.bytesWorld w 5 (strOf l)) w.heap.size l P P := by
  have hs := strOf_size l
  refine ⟨by rw [Lib.bytesWorld_size]; omega, fun j c hc => ?_, fun j hj => ?_⟩
  · have hj : j < l.length := by
      rcases Nat.lt_or_ge j l.length with h' | h'
      · exact h'
      · rw [List.getElem?_eq_none h'] at hc; cases hc
    rw [Lib.bytesWorld_cell w 5 (strOf l) j (by omega), if_neg (by omega)]
    show some (Value.int .u8 ((l.getD j 0).toNat : Int)) = _
    rw [List.getD_eq_getElem?_getD, hc]; rfl
  · have hz : j < (Lib.bytesCells w 5 (strOf l)).size := by
      unfold Lib.bytesCells
      rw [Array.size_append]
      have : ((strOf l).data.map fun b => Value.int .u8 b.toNat).size = l.length := by rw [Array.size_map]; exact hs
      omega
    simp [World.frozen?, Lib.bytesWorld_at_new]
    omega
theorem bytesWorld_below (w : World) (l : List UInt8) : Below w.heap.size w (Lib.bytesWorld w 5 (strOf l)) :=
  ⟨rfl, rfl, rfl, by rw [Lib.bytesWorld_size]; omega, fun k hk => Lib.bytesWorld_at_old w _ _ k hk⟩
theorem BytesAt.row {w : World} {g cap : Nat} {m : List Nat} {k : Nat} (h : BytesAt w g (enc m) (m.countP (· < 128)) k) (hk : (enc m).length ≤ k) (hc : (enc m).length ≤ cap) (hm : cap ≤ maxLen) : BRow w (.slice (some ⟨g, 0, none⟩) (enc m).length cap) (raised m) := by
  have hl := raised_len m
  refine ⟨_, cap, by rw [hl], by omega, hm, fun _ => ⟨g, 0, rfl, h.1, fun i hi => ?_⟩⟩
  have hi' : i < (enc m).length := by omega
  have hx := List.getElem?_eq_getElem hi'
  have hy := raised_at m i _ hx
  rw [List.getElem?_eq_getElem hi] at hy
  injection hy with hy
  rw [Nat.zero_add, h.2.1 i _ hx, hy]
  by_cases hp : m.countP (· < 128) ≤ i
  · rw [if_pos hp, if_pos (by omega)]
  · rw [if_neg hp, if_neg (by omega)]
set_option maxRecDepth 20000 in
set_option maxHeartbeats 8000000 in
theorem punyBack_walk (va : Value) (l : List Int) (w : World) (ha : IRow w va l) :
    Calls Try.prog 4 #[va] w fun e w' => e = .returned (.bool true) ∧ Below w.heap.size w w' := by
  have HA := hid ha
  have e0 := strOf_list []
  rcases encR_cases l with ⟨n, hn, n1, n2⟩ | ⟨hn, n1, n2⟩
  · clear ha
    have HN := hid hn
    clear hn
    go_enter Try.func4, Try.ntmps4
    go_wp2_with fail
    refine (first_calls _).mono ?_
    rintro e w1 ⟨rfl, hb1⟩
    have HB1 := hid hb1
    have HA1 := hid (HA.out.below hb1)
    clear hb1 HA
    go_wp2_with fail
    refine (encode_calls _ l _ HA1.out).mono ?_
    rintro e w2 ⟨rfl, hb2⟩
    have HB2 := hid (below_trans HB1.out hb2)
    clear hb2 HA1 HB1
    rw [HN.out]
    go_wp2_with fail
    refine (first_calls _).mono ?_
    rintro e w4 ⟨rfl, hb4⟩
    have HB4 := hid (below_trans HB2.out hb4)
    clear hb4 HB2
    go_wp2_with fail
    go_ret
    exact ⟨rfl, HB4.out⟩
  · have hml : (nats l).length ≤ 256 := by simpa [nats] using n1
    have hmS : ∀ c ∈ nats l, isS (c : Int) = true := fun c hc => (nats_le n2 c hc).1
    have hXl := penc_len (nats l) hml
    have HDX := hid (dec_enc_puny (nats l) hml hmS)
    have HDY := hid (raised_dec (nats l) hml hmS)
    have HLY := hid (raised_len (nats l))
    have HAll := hid n2
    have HNL := hid n1
    have HMap : Hid (ints (nats l) = l) := nats_map n2
    have HXS := hid (strOf_size (enc (nats l)))
    have HN := hid hn
    have HKi := hid (enc_kinds (nats l))
    have HPX : Hid ((nats l).countP (· < 128) ≤ (enc (nats l)).length) := by
      show _ ≤ _
      have := congrArg List.length (enc_take (nats l))
      rw [low_len, List.length_take] at this
      omega
    have HRow := hid (fun w0 g cap k => BytesAt.row (w := w0) (g := g) (cap := cap) (m := nats l) (k := k))
    obtain ⟨a, cap, rfl, h1, h2, h3⟩ := ha
    unfold maxLen at h2
    have l1 : (l.length : Int) ≤ 256 := by omega
    have l2 : (l.length : Int) ≤ (cap : Int) := by omega
    have l3 : (cap : Int) ≤ 9223372036854775807 := by omega
    have HM : Hid ((strOf (enc (nats l))).size ≤ maxLen) := by show _ ≤ _; rw [strOf_size]; unfold maxLen; omega
    clear hn n1 n2 hml hmS h1 h2 h3
    obtain ⟨P, hP⟩ : ∃ P, P = (nats l).countP (· < 128) := ⟨_, rfl⟩
    have HP := hid hP
    have HPl : Hid (P ≤ 256) := by show _ ≤ _; have := HNL.out; have h : (nats l).countP (· < 128) ≤ (nats l).length := List.countP_le_length; have h2 : (nats l).length = l.length := by simp [nats]
                                   omega
    rw [← hP] at HKi HRow HPX
    clear hP
    go_enter Try.func4, Try.ntmps4
    go_wp2_with fail
    refine (first_calls _).mono ?_
    rintro e w1 ⟨rfl, hb1⟩
    have HB1 := hid hb1
    have HA1 := hid (HA.out.below hb1)
    clear hb1 HA
    go_wp2_with fail
    refine (encode_calls _ l _ HA1.out).mono ?_
    rintro e w2 ⟨rfl, hb2⟩
    have HB2 := hid (below_trans HB1.out hb2)
    have HA2 := hid (HA1.out.below hb2)
    clear hb2 HA1 HB1
    rw [HN.out]
    clear HN
    generalize hX : enc (nats l) = X at *
    have x1 : (X.length : Int) ≤ 10000000 := by omega
    have xs : ((strOf X).size : Int) = (X.length : Int) := by rw [HXS.out]
    go_wp2_with fail
    refine (decode_calls _ _ HM.out).mono ?_
    rintro e w3 ⟨⟨v3, rfl, hv3⟩, hb3⟩
    have HB3 := hid (below_trans HB2.out hb3)
    have HA3 := hid (HA2.out.below hb3)
    have HU3 := hid hv3
    clear hb3 HB2 HA2 hv3
    by_cases hlong : 4000 < X.length
    · rw [decR_long (by rw [HXS.out]; exact hlong)] at HU3 ⊢
      have g : (4000 : Int) < (X.length : Int) := by omega
      clear hlong
      go_wp2_with fail
      refine (first_calls _).mono ?_
      rintro e w4 ⟨rfl, hb4⟩
      have HB4 := hid (below_trans HB3.out hb4)
      clear hb4 HB3
      go_wp2_with fail
      go_ret
      exact ⟨rfl, HB4.out⟩
    · rw [decR_some (by rw [HXS.out]; exact hlong) HDX.out] at HU3 ⊢
      have HLX : Hid (X.length ≤ 4000) := by show _ ≤ _; omega
      have g : decide ((4000 : Int) < (X.length : Int)) = false := decide_eq_false (by omega)
      have HU : Hid (IRow w3 v3 l) := by
        have := HU3.out
        rw [HMap.out] at this
        exact this
      clear hlong HU3
      go_wp2_with fail
      go_loop [7, 8] (fun vo vi => ∃ k : Nat, k ≤ l.length ∧ vi = .int .i64 (k : Int) ∧ vo = .int .i64 (((nats (l.take k)).countP (· < 128) : Nat) : Int)) (fun _ vi => l.length - (intOf vi).toNat)
      case atStart => exact ⟨0, Nat.zero_le _, rfl, rfl⟩
      case round =>
        obtain ⟨k, hk, rfl, rfl⟩ := hrel
        have hcb : (nats (l.take k)).countP (· < 128) ≤ 256 := by
          have h1 : (nats (l.take k)).countP (· < 128) ≤ (nats (l.take k)).length := List.countP_le_length
          have h2 := nats_take_len l k
          have := HNL.out
          omega
        by_cases hlt : k < l.length
        · obtain ⟨b, off, rfl, hck⟩ := HA3.out.open (Below.refl _ _) k hlt
          have k0 : (0 : Int) ≤ (k : Int) := by omega
          have k1 : (k : Int) < (l.length : Int) := by omega
          have HSn := hid (own_snoc l k hlt)
          have hS := List.all_eq_true.1 HAll.out _ (List.getElem_mem hlt)
          have HK := hid hlt
          generalize l[k] = c at *
          have hc1 := isS_iff.1 hS
          obtain ⟨n, rfl⟩ : ∃ n : Nat, c = (n : Int) := ⟨c.toNat, by omega⟩
          rw [Int.toNat_natCast] at HSn
          generalize (nats (l.take k)).countP (· < 128) = q at *
          have q0 : (0 : Int) ≤ (q : Int) := by omega
          have q1 : (q : Int) ≤ 256 := by omega
          by_cases hn : n < 128
          · rw [if_pos hn] at HSn
            have g1 : (n : Int) < 128 := by omega
            clear hn hS hc1 hlt hk hcb
            go_wp2_with fail
            go_round
            case rel => exact ⟨k + 1, HK.out, by go_num, by rw [HSn.out]; go_num⟩
            case measure => have := HK.out; simp [intOf]; omega
          · rw [if_neg hn] at HSn
            have g1 : ¬ (n : Int) < 128 := by omega
            clear hn hS hc1 hlt hk hcb
            go_wp2_with fail
            go_round
            case rel => exact ⟨k + 1, HK.out, by go_num, by rw [HSn.out]; rfl⟩
            case measure => have := HK.out; simp [intOf]; omega
        · have hkl : k = l.length := by omega
          subst hkl
          rw [List.take_length, ← HP.out]
          have p0 : (0 : Int) ≤ (P : Int) := by omega
          have p1 : (P : Int) ≤ 256 := by have := HPl.out; omega
          have k2 : ¬ (l.length : Int) < (l.length : Int) := by omega
          have hG1 := grownCap_ge w3 X.length 0 5
          have hG2 := grownCap_le_maxLen w3 X.length 0 5 (by have := HLX.out; unfold maxLen; omega)
          have hcv := Lib.run_convert_string_bytes (P := Try.prog) w3 9 32 5 (strOf X) Try.underlying9 Try.underlying32 Try.underlying5
          rw [HXS.out] at hcv
          have HBt := hid (BytesAt.made w3 X P)
          have HBb := hid (bytesWorld_below w3 X)
          generalize grownCap w3 X.length 0 5 = G at *
          generalize Lib.bytesWorld w3 5 (strOf X) = wb at *
          have HG1 := hid hG1
          have HG2 := hid hG2
          have G1 : (X.length : Int) ≤ (G : Int) := by omega
          have G2 : (G : Int) ≤ 9223372036854775807 := by unfold maxLen at hG2; omega
          clear hlt hk hcb hG1 hG2
          go_wp2_with fail
          clear hcv
          go_loopw [10] (fun vi wr => ∃ k : Nat, P ≤ k ∧ k ≤ X.length ∧ vi = .int .i64 (k : Int) ∧ BytesAt wr w3.heap.size X P k ∧ Below w3.heap.size w3 wr) (fun vi _ => X.length - (intOf vi).toNat)
          case atStart => exact ⟨P, Nat.le_refl _, HPX.out, rfl, HBt.out, HBb.out⟩
          case round =>
            obtain ⟨k, hpk, hk, rfl, hby, hb⟩ := hrel
            have HB := hid hb
            have HY := hid hby
            clear hb
            by_cases hlt : k < X.length
            · have hc := List.getElem?_eq_getElem hlt
              have hcell := hby.cell hc
              have hfz := hby.2.2 k hlt
              have hkd := HKi.out k _ hc hpk
              have HPut := hid (hby.put hpk hc)
              have HKp := hid (hby.keep hc)
              have HPK : Hid (P ≤ k + 1) := by show _ ≤ _; omega
              have hun := up_nat X[k]
              have HUp : Hid (¬ (97 ≤ X[k].toNat ∧ X[k].toNat ≤ 122) → up X[k] = X[k]) := fun h => by unfold up; rw [if_neg h]
              generalize X[k] = c at *
              have k0 : (0 : Int) ≤ (k : Int) := by omega
              have k1 : (k : Int) < (X.length : Int) := by omega
              have HK := hid hlt
              have hz256 := byte_lt c
              have HCf : Hid (fb (up c) = .int .u8 (((up c).toNat : Nat) : Int)) := rfl
              generalize c.toNat = z at *
              have z0 : (0 : Int) ≤ (z : Int) := by omega
              have z1 : (z : Int) < 256 := by omega
              clear hby hpk hk hlt hc
              rcases hkd with ⟨h1, h2⟩ | ⟨h1, h2⟩ | h1
              · rw [if_pos ⟨h1, h2⟩] at hun
                have HS : Hid (BytesAt (wr.setCell ⟨w3.heap.size, k, none⟩ (.int .u8 ((z : Int) - 32))) w3.heap.size X P (k + 1)) := by
                  have h := HPut.out
                  rw [HCf.out, hun, Int.natCast_sub (by omega)] at h
                  exact h
                have HBs : Hid (Below w3.heap.size w3 (wr.setCell ⟨w3.heap.size, k, none⟩ (.int .u8 ((z : Int) - 32)))) := HB.out.setCell (Nat.le_refl _) _
                have g1 : (97 : Int) ≤ (z : Int) := by omega
                have g2 : (z : Int) ≤ 122 := by omega
                clear h1 h2 hun HPut HKp HUp hz256
                go_wp2_with fail
                go_roundw
                case rel => exact ⟨k + 1, HPK.out, HK.out, by go_num, HS.out, HBs.out⟩
                case measure => have := HK.out; simp [intOf]; omega
              · have HS := hid (HKp.out (HUp.out (by omega)))
                have g1 : ¬ (97 : Int) ≤ (z : Int) := by omega
                have g2 : ¬ (z : Int) < 48 := by omega
                have g3 : ¬ (57 : Int) < (z : Int) := by omega
                clear h1 h2 hun HPut HKp HUp hz256
                go_wp2_with fail
                go_roundw
                case rel => exact ⟨k + 1, HPK.out, HK.out, by go_num, HS.out, HB.out⟩
                case measure => have := HK.out; simp [intOf]; omega
              · have HS := hid (HKp.out (HUp.out (by omega)))
                subst h1
                clear hun HPut HKp HUp hz256 z0 z1
                go_wp2_with fail
                go_roundw
                case rel => exact ⟨k + 1, HPK.out, HK.out, by go_num, HS.out, HB.out⟩
                case measure => have := HK.out; simp [intOf]; omega
            · have hrow := HRow.out wr w3.heap.size G k hby (by omega) HG1.out HG2.out
              have hs := run_string hrow
              have HYS : Hid ((strOf (raised (nats l))).size = X.length) := by show _ = _; rw [strOf_size, HLY.out]
              have HDR : Hid (decR (strOf (raised (nats l))) = (nats l, 0)) := decR_some (by rw [HYS.out]; have := HLX.out; omega) HDY.out
              have HMY : Hid ((strOf (raised (nats l))).size ≤ maxLen) := by show _ ≤ _; rw [HYS.out]; have := HLX.out; unfold maxLen; omega
              have HU4 := hid (HU.out.below HB.out)
              have HA4 := hid (HA3.out.below HB.out)
              have HB4 := hid (below_trans HB3.out HB.out)
              have g4 : ¬ (k : Int) < (X.length : Int) := by omega
              generalize raised (nats l) = Y at *
              have HI := hid (fun vx w0 => ints_calls vx (.slice a l.length cap) l l w0)
              rw [beq_self_eq_true] at HI
              clear hby hpk hk hlt hrow HU HA3 HB3 HB HRow HKi
              go_wp2_with fail
              refine (decode_calls _ _ HMY.out).mono ?_
              rintro e w5 ⟨⟨v5, rfl, hv5⟩, hb5⟩
              rw [HDR.out] at hv5 ⊢
              rw [HMap.out] at hv5
              have HB5 := hid (below_trans HB4.out hb5)
              have HA5 := hid (HA4.out.below hb5)
              have HU5 := hid (HU4.out.below hb5)
              have HV5 := hid hv5
              clear hb5 HB4 HA4 HU4 hv5 hs
              go_wp2_with fail
              refine (first_calls _).mono ?_
              rintro e w6 ⟨rfl, hb6⟩
              have HB6 := hid (below_trans HB5.out hb6)
              have HA6 := hid (HA5.out.below hb6)
              have HU6 := hid (HU5.out.below hb6)
              have HV6 := hid (HV5.out.below hb6)
              clear hb6 HB5 HA5 HU5 HV5
              go_wp2_with fail
              refine (HI.out _ _ HU6.out HA6.out).mono ?_
              rintro e w7 ⟨rfl, hb7⟩
              have HB7 := hid (below_trans HB6.out hb7)
              have HA7 := hid (HA6.out.below hb7)
              have HV7 := hid (HV6.out.below hb7)
              clear hb7 HB6 HA6 HU6 HV6
              go_wp2_with fail
              refine (HI.out _ _ HV7.out HA7.out).mono ?_
              rintro e w8 ⟨rfl, hb8⟩
              have HB8 := hid (below_trans HB7.out hb8)
              clear hb8
              go_wp2_with fail
              go_ret
              exact ⟨rfl, HB8.out⟩
end Go.Proofs.Ytpjajiilgojbgaa
