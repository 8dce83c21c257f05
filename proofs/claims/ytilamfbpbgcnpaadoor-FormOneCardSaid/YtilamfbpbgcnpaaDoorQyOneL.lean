/- FormOne: a pair of plain letters with a percent sign, a plus and a blank within, and & around. -/
import Derived.Test.YtilamfbpbgcnpaaDoorQyT
import Derived.Test.YtilamfbpbgcnpaaDoorQyU
namespace Go.Proofs.YtilamfbpbgcnpaaDoor
open Go.RowKit Go.Shelf
set_option linter.unusedVariables false
set_option maxRecDepth 20000
set_option linter.unusedSimpArgs false
abbrev tailN : List UInt8 := [37, 32, 43, 38, 61]
abbrev tailV : List UInt8 := [43, 37, 52, 49, 32]
theorem tails_U8 : U8 tailN ∧ U8 tailV := ⟨⟨[37, 32, 43, 38, 61], by decide +kernel⟩, ⟨[43, 37, 52, 49, 32], by decide +kernel⟩⟩
theorem str_list (s : ByteArray) : s = strOf s.data.toList := rfl
theorem rep_snoc (k : Nat) : strOf (List.replicate k 38) ++ ⟨#[38]⟩ = strOf (List.replicate (k + 1) 38) := by
  have := str_app (List.replicate k 38) [38]
  rw [List.replicate_succ', ← this]
  rfl
def oneP (s t : ByteArray) : Pr := (s.data.toList ++ tailN, t.data.toList ++ tailV)
set_option maxRecDepth 20000 in
set_option maxHeartbeats 4000000 in
theorem formOne_walk (s t : ByteArray) (n : Int) (w : World) (T : MaxL w ∧ TabPc w) (h0 : s.size ≤ maxLen) (h00 : t.size ≤ maxLen) (hn : -9223372036854775808 ≤ n ∧ n ≤ 9223372036854775807) :
    Calls Tryd.prog 6 #[.string s, .string t, .int .i64 n] w fun e w' => e = .returned (.bool true) ∧ Below w.heap.size w w' := by
  have HT := hid T
  have H1 := hid (qfirst_calls w T.1)
  clear T h0 h00
  go_enter Tryd.func6, Tryd.ntmps6
  go_wp2_with fail
  refine H1.out.mono ?_
  rintro e w1 ⟨rfl, hb1⟩
  have HB1 := hid hb1
  have HT1 := hid (HT.out.1.below hb1)
  have HP1 := hid (HT.out.2.below hb1)
  clear hb1 H1
  have HF := hid (fun w (T : MaxL w) => qfirst_calls w T)
  by_cases hs : 200 < s.size ∨ 200 < t.size ∨ n < 0 ∨ 50 < n
  · have q0 : True := trivial
    rcases Int.lt_or_le 200 (s.size : Int) with a1 | a1
    · clear hs
      go_wp2_with fail
      refine (HF.out w1 HT1.out).mono ?_
      rintro e w2 ⟨rfl, hb⟩
      have HB2 := hid (HB1.out.trans (hb.mono HB1.out.size))
      clear hb
      go_wp2_with fail
      go_ret
      exact ⟨rfl, HB2.out⟩
    · rcases Int.lt_or_le 200 (t.size : Int) with a2 | a2
      · clear hs
        go_wp2_with fail
        refine (HF.out w1 HT1.out).mono ?_
        rintro e w2 ⟨rfl, hb⟩
        have HB2 := hid (HB1.out.trans (hb.mono HB1.out.size))
        clear hb
        go_wp2_with fail
        go_ret
        exact ⟨rfl, HB2.out⟩
      · rcases Int.lt_or_le n 0 with a3 | a3
        · clear hs
          go_wp2_with fail
          refine (HF.out w1 HT1.out).mono ?_
          rintro e w2 ⟨rfl, hb⟩
          have HB2 := hid (HB1.out.trans (hb.mono HB1.out.size))
          clear hb
          go_wp2_with fail
          go_ret
          exact ⟨rfl, HB2.out⟩
        · have a4 : 50 < n := by omega
          clear hs
          go_wp2_with fail
          refine (HF.out w1 HT1.out).mono ?_
          rintro e w2 ⟨rfl, hb⟩
          have HB2 := hid (HB1.out.trans (hb.mono HB1.out.size))
          clear hb
          go_wp2_with fail
          go_ret
          exact ⟨rfl, HB2.out⟩
  · obtain ⟨m, rfl⟩ := Int.eq_ofNat_of_zero_le (show 0 ≤ n by omega)
    have q1 : (s.size : Int) ≤ 200 := by omega
    have q2 : (t.size : Int) ≤ 200 := by omega
    have q3 : (0 : Int) ≤ (m : Int) := by omega
    have q4 : (m : Int) ≤ 50 := by omega
    have HL := hid (show s.data.toList.length ≤ 200 ∧ t.data.toList.length ≤ 200 ∧ m ≤ 50 by rw [bytes_num, bytes_num]; omega)
    clear hs
    have HU := hid (fun v W hv => utf_calls v [(s.data.toList, t.data.toList)] W hv (by intro p hp; rw [List.mem_singleton] at hp; subst hp; have := HL.out; simp only; omega))
    go_wp2_with fail
    have HR := hid (PRow.lit w1 [(s.data.toList, t.data.toList)] #[.string s, .string t] rfl (by simp))
    refine (HU.out _ _ HR.out).mono ?_
    rintro e w2 ⟨rfl, hb⟩
    have HB2 := hid ((HB1.out.alloc HB1.out.size (.cells #[.string s, .string t] 36)).trans (hb.mono (by have := HB1.out.size; simp; omega)))
    have hb' := ((Below.refl w1.heap.size w1).alloc (Nat.le_refl _) (.cells #[.string s, .string t] 36)).trans (hb.mono (by simp))
    have HT2 := hid (HT1.out.below hb')
    have HP2 := hid (HP1.out.below hb')
    clear hb hb' HR HU
    cases hu : utfB [(s.data.toList, t.data.toList)] with
    | false =>
      clear hu
      go_wp2_with fail
      refine (HF.out w2 HT2.out).mono ?_
      rintro e w3 ⟨rfl, hb⟩
      have HB3 := hid (HB2.out.trans (hb.mono HB2.out.size))
      clear hb
      go_wp2_with fail
      go_ret
      exact ⟨rfl, HB3.out⟩
    | true =>
      have HU8 := hid (utf_iff.1 hu (s.data.toList, t.data.toList) (by simp))
      clear hu
      have e1 : s ++ ⟨#[37, 32, 43, 38, 61]⟩ = strOf (s.data.toList ++ tailN) := str_app s.data.toList tailN
      have e2 : t ++ ⟨#[43, 37, 52, 49, 32]⟩ = strOf (t.data.toList ++ tailV) := str_app t.data.toList tailV
      go_wp2_with fail
      clear e1 e2
      have hal := (Below.refl w2.heap.size w2).alloc (Nat.le_refl _) (.cells #[.string (strOf (s.data.toList ++ tailN)), .string (strOf (t.data.toList ++ tailV))] 36)
      have HR := hid (PRow.lit w2 [oneP s t] #[.string (strOf (s.data.toList ++ tailN)), .string (strOf (t.data.toList ++ tailV))] rfl (by simp))
      have HLp : Hid ((oneP s t).1.length ≤ 205 ∧ (oneP s t).2.length ≤ 205) := hid (by have := HL.out; unfold oneP; simp only [List.length_append, List.length_cons, List.length_nil]; omega)
      have HUp : Hid (U8 (oneP s t).1 ∧ U8 (oneP s t).2) := hid ⟨HU8.out.1.app tails_U8.1, HU8.out.2.app tails_U8.2⟩
      have HBa := hid (HB2.out.trans (hal.mono HB2.out.size))
      have HTa := hid (HT2.out.below hal)
      have HPa := hid (HP2.out.below hal)
      clear hal
      generalize w2.alloc (.cells #[.string (strOf (s.data.toList ++ tailN)), .string (strOf (t.data.toList ++ tailV))] 36) = wa at *
      generalize oneP s t = p at *
      refine (print_calls _ [p] wa HPa.out HR.out (by simp) (by intro x hx; rw [List.mem_singleton] at hx; subst hx; have := HLp.out; omega)).mono ?_
      rintro e w3 ⟨rfl, hb⟩
      have HB3 := hid (HBa.out.trans (hb.mono HBa.out.size))
      have HT3 := hid (HTa.out.below hb)
      have HR3 := hid (HR.out.below hb)
      clear hb HR
      have HY := hid (one_len p)
      have HC := hid (And.intro (prs_print [p] (by intro x hx; rw [List.mem_singleton] at hx; subst hx; exact HUp.out)) (cnt_print [p]))
      change Hid (prsR (oneR p) = [p] ∧ cntR (oneR p) = 1) at HC
      change Hid ((oneR p).length ≤ _) at HY
      rw [show printR [p] = oneR p from rfl]
      generalize oneR p = Y at *
      have hadd : ∀ k : Nat, k ≤ 50 → ¬ 9223372036854775807 < (strOf (List.replicate k (38 : UInt8))).size + 1 := fun k hk => by show ¬ _ < (List.replicate k (38 : UInt8)).length + 1; rw [List.length_replicate]; omega
      have HAdd := hid hadd
      clear hadd
      go_wp2_with fail
      go_loopw [9, 10] (fun a i wr => wr = w3 ∧ ∃ k : Nat, k ≤ m ∧ a = .string (strOf (List.replicate k 38)) ∧ i = .int .i64 k) (fun _ i _ => m - (intOf i).toNat)
      case atStart => exact ⟨rfl, 0, Nat.zero_le _, rfl, rfl⟩
      case round =>
        obtain ⟨rfl, k, hk, rfl, rfl⟩ := hrel
        by_cases hlt : k < m
        · have hr := rep_snoc k
          have hz := HAdd.out k (by omega)
          have k1 : (k : Int) < (m : Int) := by omega
          have k2 : (0 : Int) ≤ (k : Int) := by omega
          go_wp2_with fail
          go_roundw
          case rel => exact ⟨trivial, k + 1, by omega, rfl, by go_num⟩
          case measure => simp [intOf]; omega
        · have hkm : k = m := by omega
          subst hkm
          have a1 := str_app (List.replicate k 38) Y
          have a2 := str_app (List.replicate k 38 ++ Y) (List.replicate k 38)
          have z1 : ¬ 9223372036854775807 < (strOf (List.replicate k (38 : UInt8))).size + (strOf Y).size := by show ¬ _ < (List.replicate k (38 : UInt8)).length + Y.length; have := HY.out; have := HLp.out; rw [List.length_replicate]; omega
          have z2 : ¬ 9223372036854775807 < (strOf (List.replicate k (38 : UInt8) ++ Y)).size + (strOf (List.replicate k (38 : UInt8))).size := by show ¬ _ < (List.replicate k (38 : UInt8) ++ Y).length + (List.replicate k (38 : UInt8)).length; have := HY.out; have := HLp.out; rw [List.length_append, List.length_replicate]; omega
          have kk : ¬ (k : Int) < (k : Int) := by omega
          go_wp2_with fail
          have HK := hid hk
          clear a1 a2 z1 z2 kk
          have hc1 : prsR (List.replicate k 38 ++ (Y ++ List.replicate k 38)) = [p] ∧ cntR (List.replicate k 38 ++ (Y ++ List.replicate k 38)) = 1 := by
            have h1 := prs_ands k (Y ++ List.replicate k 38)
            have h2 := prs_behind k Y
            rw [h1.1, h1.2, h2.1, h2.2]
            exact HC.out
          have hc2 : prsR (List.replicate k (38 : UInt8)) = [] ∧ cntR (List.replicate k (38 : UInt8)) = 0 := by
            have h1 := prs_ands k []
            rw [List.append_nil] at h1
            exact ⟨h1.1.trans rfl, h1.2.trans rfl⟩
          have hl1 : (List.replicate k 38 ++ (Y ++ List.replicate k 38)).length ≤ 4000 := by
            have := HY.out; have := HLp.out; have := HL.out
            rw [List.length_append, List.length_append, List.length_replicate]; omega
          have hl2 : (List.replicate k (38 : UInt8)).length ≤ 4000 := by have := HL.out; rw [List.length_replicate]; omega
          refine (parse_calls (strOf (List.replicate k 38 ++ (Y ++ List.replicate k 38))) wr HT3.out).mono ?_
          rintro e w4 h4
          obtain ⟨a4, c4, rfl, hr, hb⟩ := pparse_ok (s := List.replicate k 38 ++ (Y ++ List.replicate k 38)) h4 hl1 (by rw [hc1.2]; decide)
          rw [hc1.1, hc1.2] at hr
          rw [hc1.2]
          have HB4 := hid (HB3.out.trans (hb.mono HB3.out.size))
          have HT4 := hid (HT3.out.below hb)
          have HR4 := hid (HR3.out.below hb)
          have HQ4 := hid hr
          have HC2 := hid hc2
          have HL2 := hid hl2
          clear hb h4 hr hc1 hc2 hl1 hl2
          go_wp2_with fail
          refine (parse_calls (strOf (List.replicate k 38)) w4 HT4.out).mono ?_
          rintro e w5 h5
          obtain ⟨a5, c5, rfl, hr, hb⟩ := pparse_ok (s := List.replicate k 38) h5 HL2.out (by rw [HC2.out.2]; decide)
          rw [HC2.out.2]
          have HB5 := hid (HB4.out.trans (hb.mono HB4.out.size))
          have HT5 := hid (HT4.out.below hb)
          have HR5 := hid (HR4.out.below hb)
          have HQ5 := hid (HQ4.out.below hb)
          clear hb h5 hr HC2
          go_wp2_with fail
          refine (HF.out w5 HT5.out).mono ?_
          rintro e w6 ⟨rfl, hb⟩
          have HB6 := hid (HB5.out.trans (hb.mono HB5.out.size))
          have HR6 := hid (HR5.out.below hb)
          have HQ6 := hid (HQ5.out.below hb)
          clear hb
          go_wp2_with fail
          refine (pairs_calls _ _ [p] [p] w6 HQ6.out HR6.out (by simp)).mono ?_
          rintro e w7 ⟨rfl, hb⟩
          have HB7 := hid (HB6.out.trans (hb.mono HB6.out.size))
          clear hb
          rw [beq_self_eq_true]
          go_wp2_with fail
          go_ret
          exact ⟨rfl, HB7.out⟩
end Go.Proofs.YtilamfbpbgcnpaaDoor
