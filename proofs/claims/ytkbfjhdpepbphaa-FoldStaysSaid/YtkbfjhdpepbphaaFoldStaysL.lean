/- The walk of the statement 'what was mapped stays'. -/
import Derived.Test.YtkbfjhdpepbphaaFoldF
import Derived.Test.YtkbfjhdpepbphaaFoldV
namespace Go.Proofs.Ytkbfjhdpepbphaa
open Go.RowKit
set_option linter.unusedVariables false
/-- A row's cell, in a later world. -/
theorem row_cell {w : World} {a : Option Addr} {n cap : Nat} {l : List Int} (h : IRow w (.slice a n cap) l) (k : Nat) (hk : k < l.length) : ∃ b off, a = some ⟨b, off, none⟩ ∧ n = l.length ∧ w.cell? ⟨b, off + k, none⟩ = some (.int .i64 l[k]) := by
  obtain ⟨a', cap', he, h1, h2, h3⟩ := h
  injection he with e1 e2 e3
  subst e1 e2 e3
  obtain ⟨b, off, rfl, hlt, hc⟩ := h3 (by intro h; simp [h] at hk)
  exact ⟨b, off, rfl, rfl, hc k hk⟩
theorem row_len {w : World} {v : Value} {l : List Int} (h : IRow w v l) : ∃ a cap, v = .slice a l.length cap := by
  obtain ⟨a', cap', he, h1, h2, h3⟩ := h
  exact ⟨a', cap', he⟩
set_option maxRecDepth 20000 in
set_option maxHeartbeats 8000000 in
theorem foldStays_walk (va : Value) (l : List Int) (c : Int) (w : World) (ha : IRow w va l) (hc : -9223372036854775808 ≤ c ∧ c ≤ 9223372036854775807) :
    Calls Try.prog 5 #[va, .int .i64 c] w fun e w' => e = .returned (.bool true) ∧ Below w.heap.size w w' := by
  clear hc
  have HA := hid ha
  obtain ⟨a1, cap1, rfl, -⟩ := ha
  by_cases hl : l.length ≤ 8000
  · have l1 : (l.length : Int) ≤ 8000 := by omega
    have HL : Hid (l.length ≤ 100000) := by show _ ≤ _; omega
    have HL2 : Hid ((mapOf l).length ≤ 100000) := by show _ ≤ _; have := map_len l; omega
    have HLT : Hid ((toOf c).length ≤ 2) := by show _ ≤ _; unfold toOf; split; exact signs_len _ _; simp
    clear hl
    go_enter Try.func5, Try.ntmps5
    go_wp2_with fail
    refine (first_calls _).mono ?_
    rintro e w1 ⟨rfl, hb1⟩
    have HB1 := hid hb1
    have HA1 := hid (HA.out.below hb1)
    clear hb1 HA
    go_wp2_with fail
    refine (to_calls c _).mono ?_
    rintro e w2 ⟨⟨tv, rfl, ht⟩, hb2⟩
    have HB2 := hid (below_trans HB1.out hb2)
    have HA2 := hid (HA1.out.below hb2)
    have HT2 := hid ht.row
    obtain ⟨ta, tcap, rfl⟩ := row_len ht.row
    have tl : ((toOf c).length : Int) ≤ 2 := by have := HLT.out; omega
    clear hb2 HA1 HB1 ht
    go_wp2_with fail
    go_loopw [6] (fun i wr => ∃ k : Nat, k ≤ (toOf c).length ∧ i = .int .i64 (k : Int) ∧ Below w2.heap.size w2 wr) (fun i _ => (toOf c).length - (intOf i).toNat)
    case atStart => exact ⟨0, Nat.zero_le _, rfl, Below.refl _ _⟩
    case round =>
      obtain ⟨k, hk, rfl, hb⟩ := hrel
      have HB := hid hb
      clear hb
      by_cases hlt : k < (toOf c).length
      · obtain ⟨b, off, rfl, -, hck⟩ := row_cell (HT2.out.below HB.out) k hlt
        have HV := hid (to_valid c _ (List.getElem_mem hlt))
        have HK := hid hlt
        have k0 : (0 : Int) ≤ (k : Int) := by omega
        have k1 : (k : Int) < ((toOf c).length : Int) := by omega
        generalize (toOf c)[k] = z at *
        clear hk hlt
        go_wp2_with fail
        refine (kind_calls z _).mono ?_
        rintro e w3 ⟨rfl, hb3⟩
        rw [HV.out]
        have HB3 := hid (below_trans HB.out hb3)
        clear hb3 HB
        go_wp2_with fail
        go_roundw
        case rel => exact ⟨k + 1, HK.out, by go_num, HB3.out⟩
        case measure => have := HK.out; simp [intOf]; omega
      · have HA3 := hid (HA2.out.below HB.out)
        have HB3 := hid (below_trans HB2.out HB.out)
        have hkk : k = (toOf c).length := by omega
        clear HB HB2 HA2 HT2 HLT
        rcases fine_or l with hf | ⟨i, hf⟩
        · have HF := hid hf
          clear hf hlt hk
          go_wp2_with fail
          refine (map_fine _ l _ HA3.out HL.out HF.out).mono ?_
          rintro e w4 ⟨⟨xv, rfl, hx⟩, hb4⟩
          have HX4 := hid hx.row
          obtain ⟨xa, xcap, rfl⟩ := row_len hx.row
          have HB4 := hid (below_trans HB3.out hb4)
          have HMV := hid (map_valid l)
          have HMA := hid (map_again HMV.out)
          have HMF := hid (fine_of_valid HMV.out)
          have xl : ((mapOf l).length : Int) ≤ 100000 := by have := HL2.out; omega
          clear hb4 hx HA3 HB3
          generalize mapOf l = x at *
          go_wp2_with fail
          go_loopw [10] (fun i wr => ∃ k : Nat, k ≤ x.length ∧ i = .int .i64 (k : Int) ∧ Below w4.heap.size w4 wr) (fun i _ => x.length - (intOf i).toNat)
          case atStart => exact ⟨0, Nat.zero_le _, rfl, Below.refl _ _⟩
          case round =>
            obtain ⟨j, hj, rfl, hb⟩ := hrel
            have HB := hid hb
            clear hb
            by_cases hlt : j < x.length
            · obtain ⟨b, off, rfl, -, hck⟩ := row_cell (HX4.out.below HB.out) j hlt
              have HV := hid (HMV.out _ (List.getElem_mem hlt))
              have HK := hid hlt
              have k0 : (0 : Int) ≤ (j : Int) := by omega
              have k1 : (j : Int) < (x.length : Int) := by omega
              generalize x[j] = z at *
              clear hj hlt
              go_wp2_with fail
              refine (kind_calls z _).mono ?_
              rintro e w5 ⟨rfl, hb5⟩
              rw [HV.out]
              have HB5 := hid (below_trans HB.out hb5)
              clear hb5 HB
              go_wp2_with fail
              go_roundw
              case rel => exact ⟨j + 1, HK.out, by go_num, HB5.out⟩
              case measure => have := HK.out; simp [intOf]; omega
            · have HX5 := hid (HX4.out.below HB.out)
              have HB5 := hid (below_trans HB4.out HB.out)
              clear HB HB4 HX4
              go_wp2_with fail
              refine (map_fine _ x _ HX5.out HL2.out HMF.out).mono ?_
              rintro e w6 ⟨⟨yv, rfl, hy⟩, hb6⟩
              rw [HMA.out] at hy
              have HY6 := hid hy.row
              have HX6 := hid (HX5.out.below hb6)
              have HB6 := hid (below_trans HB5.out hb6)
              clear hb6 hy HX5 HB5
              go_wp2_with fail
              refine (first_calls _).mono ?_
              rintro e w7 ⟨rfl, hb7⟩
              have HY7 := hid (HY6.out.below hb7)
              have HX7 := hid (HX6.out.below hb7)
              have HB7 := hid (below_trans HB6.out hb7)
              clear hb7 HY6 HX6 HB6
              go_wp2_with fail
              refine (ints_calls _ _ _ _ _ HY7.out HX7.out).mono ?_
              rintro e w8 ⟨rfl, hb8⟩
              rw [beq_self_eq_true]
              have HB8 := hid (below_trans HB7.out hb8)
              clear hb8 HB7
              go_wp2_with fail
              go_ret
              exact ⟨rfl, HB8.out⟩
        · have HF := hid hf
          have i1 : (i : Int) < (l.length : Int) := by have := hf.1; omega
          have i0 : (0 : Int) ≤ (i : Int) := by omega
          clear hf hlt hk
          go_wp2_with fail
          refine (map_bad _ l _ HA3.out HL.out i HF.out).mono ?_
          rintro e w4 ⟨rfl, hb4⟩
          have HA4 := hid (HA3.out.below hb4)
          have HB4 := hid (below_trans HB3.out hb4)
          clear hb4 HA3 HB3
          go_wp2_with fail
          refine (first_calls _).mono ?_
          rintro e w5 ⟨rfl, hb5⟩
          have HB5 := hid (below_trans HB4.out hb5)
          obtain ⟨hi, h4, -⟩ := HF.out
          obtain ⟨b, off, rfl, -, hck⟩ := row_cell (HA4.out.below hb5) i hi
          have H4 := hid h4
          clear hb5 HA4 HB4 h4
          generalize l[i] = z at *
          clear hi
          go_wp2_with fail
          refine (kind_calls z _).mono ?_
          rintro e w6 ⟨rfl, hb6⟩
          rw [H4.out]
          have HB6 := hid (below_trans HB5.out hb6)
          clear hb6 HB5
          go_wp2_with fail
          go_ret
          exact ⟨rfl, HB6.out⟩
  · have hl' : ¬ (l.length : Int) ≤ 8000 := by omega
    clear hl HA
    go_enter Try.func5, Try.ntmps5
    go_wp2_with fail
    refine (first_calls _).mono ?_
    rintro e w1 ⟨rfl, hb1⟩
    have HB1 := hid hb1
    clear hb1
    go_wp2_with fail
    refine (first_calls _).mono ?_
    rintro e w2 ⟨rfl, hb2⟩
    have HB2 := hid (below_trans HB1.out hb2)
    clear hb2 HB1
    go_wp2_with fail
    go_ret
    exact ⟨rfl, HB2.out⟩
end Go.Proofs.Ytkbfjhdpepbphaa
