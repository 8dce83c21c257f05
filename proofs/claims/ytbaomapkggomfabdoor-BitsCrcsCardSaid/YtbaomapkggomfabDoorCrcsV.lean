/- The walk of the statement on sums together. -/
import Derived.Test.YtbaomapkggomfabDoorCrcsL
namespace Go.Proofs.YtbaomapkggomfabDoor
open Go.RowKit
set_option linter.unusedVariables false
attribute [local go_sem ↓] Go.wp_at_zero Go.wp_at_succ
theorem zeros_cells (n : Nat) : madeCells #[.int .u8 0] n = (bv (List.replicate n 0)).toArray := by
  apply Array.ext
  · rw [size_madeCells]; simp [bv]
  · intro i h1 h2
    simp [madeCells, bv]
    rw [Nat.mod_one]
    rfl
theorem Own.zeros (w : World) (n : Nat) (hn : n ≤ 1000000) : Own (w.alloc (.cells (madeCells #[.int .u8 0] n) 5)) w.heap.size (.slice (some ⟨w.heap.size, 0, none⟩) n n) (List.replicate n 0) := by
  refine ⟨by simp [bv], .inr ⟨w.heap.size, n, madeCells #[.int .u8 0] n, by simp, Nat.le_refl _, heap_alloc_new w _, by simp, by unfold maxLen; omega, by rw [size_madeCells]; omega, ?_⟩⟩
  rw [zeros_cells]
  simp [bv]
/-- What the region that makes both slices leaves. -/
def Both (wA : World) (n : Nat) (la : List UInt8) (d t : Value) (w : World) : Prop :=
  Own w wA.heap.size d (List.replicate n 0) ∧ Own w wA.heap.size t la ∧ (d.ownBlock = none ∨ d.ownBlock ≠ t.ownBlock) ∧ Below wA.heap.size wA w
theorem Both.makeFirst {wA w2 : World} {n : Nat} {la : List UInt8} {t : Value} (hn : n ≤ 1000000)
    (ht : Own w2 ((wA.alloc (.cells (madeCells #[.int .u8 0] n) 5)).drew).heap.size t la) (hb : Below ((wA.alloc (.cells (madeCells #[.int .u8 0] n) 5)).drew).heap.size ((wA.alloc (.cells (madeCells #[.int .u8 0] n) 5)).drew) w2) :
    Both wA n la (.slice (some ⟨wA.heap.size, 0, none⟩) n n) t w2 := by
  refine ⟨(Own.zeros wA n hn).drew.below hb, ht.lower (by simp), .inr ?_, ?_⟩
  · intro e
    have := (World.ownsRow.lt ht wA.heap.size (by rw [← e]; rfl)).1
    simp at this
    omega
  · exact (((Below.refl _ _).alloc (Nat.le_refl _) _).drew).trans (hb.mono (by simp))
theorem Both.copyFirst {wA w2 : World} {n : Nat} {la : List UInt8} {t : Value} (hn : n ≤ 1000000) (ht : Own w2 wA.drew.heap.size t la) (hb : Below wA.drew.heap.size wA.drew w2) :
    Both wA n la (.slice (some ⟨w2.heap.size, 0, none⟩) n n) t (w2.alloc (.cells (madeCells #[.int .u8 0] n) 5)) := by
  have hsz : wA.heap.size ≤ w2.heap.size := hb.size
  refine ⟨(Own.zeros w2 n hn).lower hsz, ht.alloc _, .inr ?_, ?_⟩
  · intro e
    have := (World.ownsRow.lt ht w2.heap.size (by rw [← e]; rfl)).2
    omega
  · exact ((Below.refl _ _).drew.trans hb).alloc hsz _
theorem take_step {L X : List UInt8} {k : Nat} {z : UInt8} (hk : k < L.length) (h : L.take k = X.take k) (hx : X[k]? = some z) : (L.set k z).take (k + 1) = X.take (k + 1) := by
  rw [List.take_add_one, List.take_add_one, hx, List.take_set_of_le (Nat.le_refl _), h]
  simp [hk]
theorem ne_block {g n cap : Nat} {t : Value} (h : (Value.slice (some ⟨g, 0, none⟩) n cap).ownBlock = none ∨ (Value.slice (some ⟨g, 0, none⟩) n cap).ownBlock ≠ t.ownBlock) : t.ownBlock = none ∨ t.ownBlock ≠ some g := by
  rcases h with h | h
  · cases h
  · exact .inr fun e => h e.symm
theorem crc_lt (l : List UInt8) : crcN l < 4294967296 := xor_lt32 (by decide) (fold_lt l)
theorem u8x (a b : UInt8) : bits .xor .u8 (a.toNat : Int) (b.toNat : Int) = ((a ^^^ b).toNat : Int) := by
  rw [u8_xor_nat a.toNat b.toNat (byte_lt a) (byte_lt b), UInt8.toNat_xor]
theorem brow_at {w : World} {a : Option Addr} {n cap k : Nat} {l : List UInt8} (h : BRow w (.slice a n cap) l) (hk : k < l.length) : ∃ b off, a = some ⟨b, off, none⟩ ∧ b < w.heap.size ∧ w.cell? ⟨b, off + k, none⟩ = some (.int .u8 (l[k].toNat : Int)) := by
  obtain ⟨a', cap', he, _, _, h3⟩ := h
  injection he with e1 e2 e3
  obtain ⟨b, off, e, hlt, hc⟩ := h3 (by intro h; simp [h] at hk)
  exact ⟨b, off, e1.trans e, hlt, hc k hk⟩
set_option maxRecDepth 100000 in
set_option maxHeartbeats 2000000 in
theorem crcs_in (va vb vc : Value) (la lb lc : List UInt8) (at' : Int) (x : UInt8) (w : World) (ht : Tab w) (ha : BRow w va la) (hb : BRow w vb lb) (hc : BRow w vc lc) (hl : la.length ≤ 8000) (hlb : lb.length = la.length) (hlc : lc.length = la.length) :
    Calls Tryd.prog 4 #[va, vb, vc, .int .i64 at', .int .u8 (x.toNat : Int)] w fun e w' => e = .returned (.bool true) ∧ Below w.heap.size w w' := by
  have HT := hid ht
  have HA := hid ha
  have HB := hid hb
  have HC := hid hc
  obtain ⟨aa, capa, rfl, a1, a2, a3⟩ := ha
  obtain ⟨ab, capb, rfl, b1, b2, b3⟩ := hb
  obtain ⟨ac, capc, rfl, c1, c2, c3⟩ := hc
  clear ht a3 b3 c3
  unfold maxLen at a2 b2 c2
  rw [hlb] at b1 HB ⊢
  rw [hlc] at c1 HC ⊢
  have HLB := hid hlb
  have HLC := hid hlc
  clear hlb hlc
  have hmk := make_bytes la.length (by omega)
  go_enter Tryd.func4, Tryd.ntmps4
  go_wp2_with fail
  refine (first_calls _ HT.out).mono ?_
  rintro e w1 ⟨rfl, hb1⟩
  have HT1 := hid (Tab.below HT.out hb1 HT.out.pos)
  have HB1 := hid hb1
  have HA1 := hid (HA.out.below hb1)
  have HBb1 := hid (HB.out.below hb1)
  have HC1 := hid (HC.out.below hb1)
  clear hb1 HT HA HB HC
  go_upto_region 5 with fail
  go_cut [11, 12] (fun d t wx => Both w1 la.length la d t wx)
  case first =>
    go_region_with ((go_at_call 9; refine (copy_calls _ la _ (by first | exact HA1.out.drew | exact (HA1.out.below ((Below.refl _ _).alloc (Nat.le_refl _) _)).drew) (by omega)).mono ?_; rintro e w2 ⟨⟨tv, rfl, hc⟩, hb2⟩))
    all_goals
      go_wp2_with fail
      go_meet
      case rel => first | exact Both.makeFirst (by omega) hc hb2 | exact Both.copyFirst (by omega) hc hb2
  case rest =>
    clear hmk
    obtain ⟨hd, ht0, hne, hbx⟩ := hcut
    have HD := hid hd
    have HT0 := hid ht0
    have HNE := hid hne
    have HBX := hid hbx
    clear hd ht0 hne hbx
    go_wp2
    go_loopw [13] (fun i wr => ∃ (k : Nat) (L : List UInt8), k ≤ la.length ∧ i = .int .i64 k ∧ L.length = la.length ∧ L.take k = (xor3 la lb lc).take k ∧ Own wr w1.heap.size u11 L ∧ Own wr w1.heap.size u12 la ∧ Below w1.heap.size w1 wr) (fun i _ => la.length - (intOf i).toNat)
    case atStart => exact ⟨0, List.replicate la.length 0, Nat.zero_le _, rfl, by simp, rfl, HD.out, HT0.out, HBX.out⟩
    case round =>
      obtain ⟨k, L, hk, rfl, hL, htk, hd, ht0, hbw⟩ := hrel
      have HLL := hid hL
      have HTK := hid htk
      have HD2 := hid hd
      have HT2 := hid ht0
      have HBW := hid hbw
      clear hL htk hd ht0 hbw HD HT0 HBX
      by_cases hlt : k < la.length
      · obtain ⟨ba, oa, rfl, la1, ca0⟩ := brow_at HA1.out hlt
        obtain ⟨bb, ob, rfl, lb1, cb0⟩ := brow_at HBb1.out (k := k) (by rw [HLB.out]; exact hlt)
        obtain ⟨bc, oc, rfl, lc1, cc0⟩ := brow_at HC1.out (k := k) (by rw [HLC.out]; exact hlt)
        have ca := (HBW.out.cell (p := ⟨ba, oa + k, none⟩) la1).trans ca0
        have cb := (HBW.out.cell (p := ⟨bb, ob + k, none⟩) lb1).trans cb0
        have cc := (HBW.out.cell (p := ⟨bc, oc + k, none⟩) lc1).trans cc0
        have HXK := hid (xor3_at la lb lc k hlt (by rw [HLB.out]; exact hlt) (by rw [HLC.out]; exact hlt))
        obtain ⟨g, capd, e, g1, g2, g3, g4, gc, gs⟩ := HD2.out.open (by intro h; have := HLL.out; rw [h] at this; simp at this; omega)
        rw [HLL.out] at e g3
        subst e
        clear ca0 cb0 cc0
        generalize la[k] = xa at *
        generalize lb[k]'(by rw [HLB.out]; exact hlt) = xb at *
        generalize lc[k]'(by rw [HLC.out]; exact hlt) = xc at *
        obtain ⟨y, hy⟩ : ∃ y, y = xa ^^^ xb := ⟨_, rfl⟩
        obtain ⟨z, hz⟩ : ∃ z, z = y ^^^ xc := ⟨_, rfl⟩
        have e1 := u8x xa xb
        have e2 := u8x y xc
        rw [← hy] at e1
        rw [← hz] at e2
        have HZ : Hid ((xor3 la lb lc)[k]? = some z) := by show _ = _; rw [HXK.out, hz, hy]
        clear hy hz HXK
        obtain ⟨gc1, gf1⟩ := gc k (by rw [HLL.out]; exact hlt)
        obtain ⟨s1, s2⟩ := gs k z (by rw [HLL.out]; exact hlt)
        have HS1 := hid s1
        have HS2 := hid (HT2.out.kept s2 (ne_block HNE.out))
        have HS3 := hid (HBW.out.grown s2 (HBW.out.size) (fun k hk => by cases hk; exact g1))
        have HK := hid (take_step (by rw [HLL.out]; exact hlt) HTK.out HZ.out)
        clear gc gs s1 s2 HZ HD2 HT2 HTK
        have n1 : ba ≠ g := by omega
        have n2 : bb ≠ g := by omega
        have n3 : bc ≠ g := by omega
        have k0 : (0 : Int) ≤ (k : Int) := by omega
        have k1 : (k : Int) < (la.length : Int) := by omega
        unfold maxLen at g4
        have sa := (World.cell?_setCell_far wr ⟨g, k, none⟩ ⟨ba, oa + k, none⟩ (.int .u8 (z.toNat : Int)) (Ne.symm n1)).trans ca
        have sb := (World.cell?_setCell_far wr ⟨g, k, none⟩ ⟨bb, ob + k, none⟩ (.int .u8 (z.toNat : Int)) (Ne.symm n2)).trans cb
        have sc := (World.cell?_setCell_far wr ⟨g, k, none⟩ ⟨bc, oc + k, none⟩ (.int .u8 (z.toNat : Int)) (Ne.symm n3)).trans cc
        go_wp2
        go_region_held3 (fun w' => w'.cell? ⟨ba, oa + k, none⟩ = some (.int .u8 (xa.toNat : Int)) ∧ w'.cell? ⟨bb, ob + k, none⟩ = some (.int .u8 (xb.toNat : Int)) ∧ w'.cell? ⟨bc, oc + k, none⟩ = some (.int .u8 (xc.toNat : Int))) (first | exact ⟨sa, sb, sc⟩ | exact ⟨ca, cb, cc⟩ | go_keep) (fail)
        all_goals
          go_wp2
          go_roundw
          case rel => exact ⟨k + 1, L.set k z, by omega, by go_num, by rw [List.length_set]; exact HLL.out, HK.out, HS1.out, HS2.out, HS3.out.drew⟩
          case measure => simp [intOf]; omega
      · have HX : Hid (L = xor3 la lb lc) := by
          have h := HTK.out
          rw [List.take_of_length_le (by rw [HLL.out]; omega), List.take_of_length_le (by rw [xor3_len la lb lc HLB.out HLC.out]; omega)] at h
          exact h
        have HTw := hid (Tab.below HT1.out HBW.out HT1.out.pos)
        have HAw := hid (HA1.out.below HBW.out)
        have HBw := hid (HBb1.out.below HBW.out)
        have HCw := hid (HC1.out.below HBW.out)
        have HLw := hid (below_trans HB1.out HBW.out)
        have HDw := hid HD2.out.row
        obtain ⟨y1, q1, l1, e1⟩ := u32x (crcN la) (crcN lb) (crc_lt la) (crc_lt lb)
        obtain ⟨y2, q2, l2, e2⟩ := u32x y1 (crcN lc) l1 (crc_lt lc)
        have HY : Hid (crcN L = y2) := by show crcN L = y2; rw [HX.out, crc_xor3 la lb lc HLB.out HLC.out, q2, q1]
        clear q1 q2 HTK HD2 HBb1 HC1
        go_wp2_with fail
        refine (crc_calls _ L _ HTw.out HDw.out).mono ?_
        rintro e w2 ⟨rfl, rfl⟩
        rw [HY.out]
        go_wp2_with fail
        refine (crc_calls _ la _ HTw.out HAw.out).mono ?_
        rintro e w2 ⟨rfl, rfl⟩
        go_wp2_with fail
        refine (crc_calls _ lb _ HTw.out HBw.out).mono ?_
        rintro e w2 ⟨rfl, rfl⟩
        go_wp2_with fail
        refine (crc_calls _ lc _ HTw.out HCw.out).mono ?_
        rintro e w2 ⟨rfl, rfl⟩
        have hxl := byte_lt x
        by_cases hin : 0 ≤ at' ∧ at' < (la.length : Int) ∧ x ≠ 0
        · obtain ⟨i0, i1, hx0⟩ := hin
          obtain ⟨i, rfl⟩ := Int.eq_ofNat_of_zero_le i0
          have hi : i < la.length := by omega
          have hxz : ((x.toNat : Int) == 0) = false := by
            rw [beq_eq_false_iff_ne]
            intro h
            exact hx0 (UInt8.toNat_inj.1 (by simp; omega))
          obtain ⟨z, hz⟩ : ∃ z, z = la[i] ^^^ x := ⟨_, rfl⟩
          have e3 := u8x la[i] x
          rw [← hz] at e3
          obtain ⟨p, hp⟩ : ∃ p, p = crcN (la.set i z) := ⟨_, rfl⟩
          have HP := hid hp.symm
          have hpq : ((p : Int) != (crcN la : Int)) = true := by
            rw [bne_iff_ne]
            intro h
            exact crc_set la i z hi (by rw [hz]; exact xor_ne _ _ hx0) (by rw [← hp]; omega)
          obtain ⟨gt, capt, e, t1, t2, t3, t4, tc, ts⟩ := HT2.out.open (by intro h; rw [h] at hi; simp at hi)
          obtain ⟨tc1, tf1⟩ := tc i hi
          obtain ⟨s1, s2⟩ := ts i z hi
          have HS1 := hid s1.row
          have hb3 := HBW.out.grown s2 (HBW.out.size) (fun k hk => by cases hk; exact t1)
          have HT3 := hid (Tab.below HT1.out hb3 HT1.out.pos)
          have HA3 := hid (HA1.out.below hb3)
          have HB3 := hid (below_trans HB1.out hb3)
          subst e
          unfold maxLen at t4
          clear hx0 hz hp tc ts s1 s2 hb3 HTw HAw HBw HCw HLw HDw HT2 HT1 HA1 HB1 HBW
          generalize la[i] = ai at *
          go_wp2_with fail
          refine (first_calls _ (by exact HT3.out)).mono ?_
          rintro e w5 ⟨rfl, hb5⟩
          have HT5 := hid (Tab.below HT3.out hb5 HT3.out.pos)
          have HA5 := hid (HA3.out.below hb5)
          have HS5 := hid (HS1.out.below hb5)
          have HB5 := hid (below_trans HB3.out hb5)
          clear hb5 HT3 HA3 HS1 HB3
          go_wp2_with fail
          refine (crc_calls _ (la.set i z) _ HT5.out HS5.out).mono ?_
          rintro e w6 ⟨rfl, rfl⟩
          rw [HP.out]
          go_wp2_with fail
          refine (crc_calls _ la _ HT5.out HA5.out).mono ?_
          rintro e w6 ⟨rfl, rfl⟩
          go_wp2_with fail
          go_ret
          exact ⟨rfl, HB5.out⟩
        · have hout : at' < 0 ∨ (0 ≤ at' ∧ (la.length : Int) ≤ at') ∨ (0 ≤ at' ∧ at' < (la.length : Int) ∧ ((x.toNat : Int) == 0) = true) := by
            by_cases h1 : at' < 0
            · exact .inl h1
            · by_cases h2 : (la.length : Int) ≤ at'
              · exact .inr (.inl ⟨by omega, h2⟩)
              · refine .inr (.inr ⟨by omega, by omega, ?_⟩)
                have hx0 : x = 0 := by
                  by_cases h3 : x = 0
                  · exact h3
                  · exact absurd ⟨by omega, by omega, h3⟩ hin
                rw [hx0]; rfl
          clear hin
          rcases hout with h | ⟨h1, h⟩ | ⟨h1, h2, h⟩
          all_goals
            go_wp2_with fail
            refine (first_calls _ HTw.out).mono ?_
            rintro e w5 ⟨rfl, hb5⟩
            have HB5 := hid (below_trans HLw.out hb5)
            clear hb5
            go_wp2_with fail
            go_ret
            exact ⟨rfl, HB5.out⟩
theorem crcs_out (va vb vc : Value) (la lb lc : List UInt8) (at' : Int) (x : UInt8) (w : World) (ht : Tab w) (ha : BRow w va la) (hb : BRow w vb lb) (hc : BRow w vc lc) (h : ¬ (la.length ≤ 8000 ∧ lb.length = la.length ∧ lc.length = la.length)) :
    Calls Tryd.prog 4 #[va, vb, vc, .int .i64 at', .int .u8 (x.toNat : Int)] w fun e w' => e = .returned (.bool true) ∧ Below w.heap.size w w' := by
  have HT := hid ht
  obtain ⟨aa, capa, rfl, a1, a2, a3⟩ := ha
  obtain ⟨ab, capb, rfl, b1, b2, b3⟩ := hb
  obtain ⟨ac, capc, rfl, c1, c2, c3⟩ := hc
  clear ht a3 b3 c3
  unfold maxLen at a2 b2 c2
  have hout : (8000 : Int) < (la.length : Int) ∨ ((la.length : Int) ≤ 8000 ∧ ((lb.length : Int) != (la.length : Int)) = true) ∨ ((la.length : Int) ≤ 8000 ∧ ((lb.length : Int) != (la.length : Int)) = false ∧ ((lc.length : Int) != (la.length : Int)) = true) := by
    by_cases h1 : la.length ≤ 8000
    · by_cases h2 : lb.length = la.length
      · refine .inr (.inr ⟨by omega, by rw [bne_eq_false_iff_eq]; omega, by rw [bne_iff_ne]; omega⟩)
      · exact .inr (.inl ⟨by omega, by rw [bne_iff_ne]; omega⟩)
    · exact .inl (by omega)
  clear h
  rcases hout with h | ⟨h1, h⟩ | ⟨h1, h2, h⟩
  all_goals
    go_enter Tryd.func4, Tryd.ntmps4
    go_wp2_with fail
    refine (first_calls _ HT.out).mono ?_
    rintro e w1 ⟨rfl, hb1⟩
    have HT1 := hid (Tab.below HT.out hb1 HT.out.pos)
    have HB1 := hid hb1
    clear hb1
    go_wp2_with fail
    refine (first_calls _ HT1.out).mono ?_
    rintro e w2 ⟨rfl, hb2⟩
    have HB2 := hid (below_trans HB1.out hb2)
    clear hb2 HT HT1 HB1
    go_wp2_with fail
    go_ret
    exact ⟨rfl, HB2.out⟩
theorem bitsCrcs_walk (va : Value) (la : List UInt8) (vb : Value) (lb : List UInt8) (vc : Value) (lc : List UInt8) (at' xi : Int) (w : World) (ht : Tab w) (ha : BRow w va la) (hb : BRow w vb lb) (hc : BRow w vc lc) (hat : -9223372036854775808 ≤ at' ∧ at' ≤ 9223372036854775807) (hx : 0 ≤ xi ∧ xi ≤ 255) :
    Calls Tryd.prog 4 #[va, vb, vc, .int .i64 at', .int .u8 xi] w fun e w' => e = .returned (.bool true) ∧ Below w.heap.size w w' := by
  obtain ⟨x, rfl⟩ : ∃ x : UInt8, xi = (x.toNat : Int) := ⟨UInt8.ofNat xi.toNat, by simp; omega⟩
  by_cases h : la.length ≤ 8000 ∧ lb.length = la.length ∧ lc.length = la.length
  · exact crcs_in va vb vc la lb lc at' x w ht ha hb hc h.1 h.2.1 h.2.2
  · exact crcs_out va vb vc la lb lc at' x w ht ha hb hc h
end Go.Proofs.YtbaomapkggomfabDoor
