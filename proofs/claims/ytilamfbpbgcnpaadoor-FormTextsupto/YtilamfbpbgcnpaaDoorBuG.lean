/- Texts of one proof, laid behind one another. -/
import Derived.Test.YtilamfbpbgcnpaaDoorQzU
import Derived.Test.YtilamfbpbgcnpaaDoorBuD
import Derived.Test.YtilamfbpbgcnpaaDoorQzB
/- The document's Names; two rows of one list of texts are alike. -/
namespace Go.Proofs.YtilamfbpbgcnpaaDoor
open Go.RowKit Go.Shelf
set_option linter.unusedVariables false
set_option maxRecDepth 20000
set_option linter.unusedSimpArgs false
set_option maxHeartbeats 4000000 in
theorem names2_calls (v : Value) (l : List Pr) (w : World) (hv : PRow w v l) (hl : l.length ≤ 1000) :
    Calls Tryd.prog 16 #[v] w fun e w' => (∃ v', e = .returned v' ∧ SRowIp w' v' (namesR l)) ∧ Below w.heap.size w w' := by
  obtain ⟨a, cap, rfl, h1, h2, h3⟩ := hv
  have H3 := hid h3
  clear h3
  unfold maxLen at h2
  go_enter Tryd.func16, Tryd.ntmps16
  go_wp2_with fail
  go_loopw [3, 4] (fun s i wr => ∃ k : Nat, k ≤ l.length ∧ i = .int .i64 k ∧ SOwnIp wr w.heap.size s ((l.take k).map (·.1)) ∧ Below w.heap.size w wr) (fun _ i _ => l.length - (intOf i).toNat)
  case atStart => exact ⟨0, Nat.zero_le _, rfl, Own.nil _ _ _ _, Below.refl _ _⟩
  case round =>
    obtain ⟨k, hk, rfl, ho, hb⟩ := hrel
    have HB := hid hb
    have HO := hid ho
    by_cases hlt : k < l.length
    · obtain ⟨b, off, rfl, hbl, hc⟩ := H3.out (by intro h; simp [h] at hlt)
      have ck0 := (hb.cell (p := ⟨b, off + 2 * k, none⟩) hbl).trans (hc _ _ (flatP_at l k hlt).1)
      have ck1 := (hb.cell (p := ⟨b, off + (2 * k + 1), none⟩) hbl).trans (hc _ _ (flatP_at l k hlt).2)
      rw [Nat.mul_comm 2 k] at ck0 ck1
      rw [← Nat.add_assoc] at ck1
      have HT : Hid ((l.take (k + 1)).map (·.1) = (l.take k).map (·.1) ++ [l[k].1]) := hid (by rw [List.take_succ_eq_append_getElem hlt, List.map_append]; rfl)
      have k0 : (0 : Int) ≤ (k : Int) := by omega
      have k1 : (k : Int) < (l.length : Int) := by omega
      have hb0 := hb
      clear hc hb ho
      generalize l[k] = p at *
      obtain ⟨c1, c2⟩ := p
      have hsz := hb0.size
      have hlk : ((l.take k).map (·.1)).length ≤ 1000 := by rw [List.length_map, List.length_take]; omega
      obtain ⟨v2, w2, hr, ho2, hg2⟩ := appendS_runIp (HO.out.alloc (.cells #[.string (strOf c1)] 9)) (oneS_row wr c1) (by simp only [List.length_cons, List.length_nil]; omega) (by simp; omega)
      have hb2 : Below w.heap.size w w2 := ((hb0.alloc hsz (.cells #[.string (strOf c1)] 9)).grown hg2 (by simp; omega) (fun j hj => (World.ownsRow.lt HO.out j hj).1))
      have HO2 := hid ho2
      have HB2 := hid hb2
      clear ho2 hg2 hb0 hb2 hsz hlk
      go_wp2_with (at_builtin; go_must (refine wpList_append_run hr rfl _ _ rfl rfl rfl rfl ?_))
      clear hr
      go_roundw
      case rel => exact ⟨k + 1, by omega, by go_num, by rw [HT.out]; exact HO2.out, HB2.out⟩
      case measure => simp [intOf]; omega
    · have hkl : k = l.length := by omega
      have ho2 := ho
      rw [hkl, List.take_length] at ho2
      have HU := hid (unique_calls _ (l.map (·.1)) wr ho2.row (by rw [List.length_map]; exact hl))
      have kk : ¬ (k : Int) < (l.length : Int) := by omega
      clear ho ho2 hb hkl hlt
      go_wp2_with fail
      refine HU.out.mono ?_
      rintro e w2 ⟨⟨v', o, rfl, hr, hu⟩, hb⟩
      have e9 : o = namesR l := namesR_of hu
      subst e9
      have HB2 := hid (HB.out.trans (hb.mono HB.out.size))
      have HR2 := hid hr
      clear hb hr hu
      go_wp2_with fail
      go_ret
      exact ⟨⟨_, rfl, HR2.out⟩, HB2.out⟩
set_option maxHeartbeats 4000000 in
theorem texts_same (x y : Value) (l : List Tx) (w : World) (hx : SRowIp w x l) (hy : SRowIp w y l) (hll : l.length ≤ 1000000) :
    Calls Tryd.prog 14 #[x, y] w fun e w' => e = .returned (.bool true) ∧ Below w.heap.size w w' := by
  have HX := hid hx
  have HY := hid hy
  obtain ⟨a, cap, rfl, h1, h2, _⟩ := hx
  obtain ⟨a', cap', rfl, i1, i2, _⟩ := hy
  unfold maxLen at h2 i2
  go_enter Tryd.func14, Tryd.ntmps14
  go_wp2_with fail
  go_loopw [5] (fun i wr => ∃ k : Nat, k ≤ l.length ∧ i = .int .i64 k ∧ Below w.heap.size w wr) (fun i _ => l.length - (intOf i).toNat)
  case atStart => exact ⟨0, Nat.zero_le _, rfl, Below.refl _ _⟩
  case round =>
    obtain ⟨k, hk, rfl, hb⟩ := hrel
    have HB := hid hb
    have k0 : (0 : Int) ≤ (k : Int) := by omega
    by_cases hlt : k < l.length
    · obtain ⟨b, off, rfl, hbl, hc⟩ := row_atQ HX.out hlt
      obtain ⟨b', off', rfl, hbl', hc'⟩ := row_atQ HY.out hlt
      have ck : wr.cell? ⟨b, off + k, none⟩ = some (.string (strOf l[k])) := (hb.cell (p := ⟨b, off + k, none⟩) hbl).trans hc
      have dk : wr.cell? ⟨b', off' + k, none⟩ = some (.string (strOf l[k])) := (hb.cell (p := ⟨b', off' + k, none⟩) hbl').trans hc'
      have k1 : (k : Int) < (l.length : Int) := by omega
      clear hc hc' hb
      generalize l[k] = c at *
      go_wp2_with fail
      go_region
      go_wp2_with fail
      go_roundw
      case rel => exact ⟨k + 1, by omega, by go_num, HB.out.drew⟩
      case measure => simp [intOf]; omega
    · have kk : ¬ (k : Int) < (l.length : Int) := by omega
      clear hb
      go_wp2_with fail
      go_ret
      exact ⟨rfl, HB.out⟩
theorem namesR_len (l : List Pr) : (namesR l).length ≤ l.length := by
  have h1 := Lib.compact_length_le (sortR (l.map (·.1)))
  have h2 : (sortR (l.map (·.1))).length = l.length := (List.length_mergeSort _).trans (List.length_map _)
  show (Lib.compact _).length ≤ _
  omega
end Go.Proofs.YtilamfbpbgcnpaaDoor
/- The statements' few: are pairs few and short? What its yes says. -/
namespace Go.Proofs.YtilamfbpbgcnpaaDoor
open Go.RowKit Go.Shelf
set_option linter.unusedVariables false
set_option maxRecDepth 20000
set_option linter.unusedSimpArgs false
def FewPost (l : List Pr) (e : Ending) : Prop := ∃ b, e = .returned (.bool b) ∧ (b = true → l.length ≤ 300)
theorem FewPost.yes {l : List Pr} {e : Ending} (b : Bool) (he : e = .returned (.bool b)) (hl : l.length ≤ 300) : FewPost l e := ⟨b, he, fun _ => hl⟩
theorem FewPost.no {l : List Pr} {e : Ending} (he : e = .returned (.bool false)) : FewPost l e := ⟨false, he, fun h => by cases h⟩
set_option maxHeartbeats 4000000 in
theorem few_calls (v : Value) (l : List Pr) (w : World) (hv : PRow w v l) :
    Calls Tryd.prog 8 #[v] w fun e w' => FewPost l e ∧ Below w.heap.size w w' := by
  obtain ⟨a, cap, rfl, h1, h2, h3⟩ := hv
  have H3 := hid h3
  clear h3
  unfold maxLen at h2
  go_enter Tryd.func8, Tryd.ntmps8
  go_wp2_with fail
  go_loopw [3, 4] (fun n i wr => ∃ (k : Nat) (z : Int), k ≤ l.length ∧ i = .int .i64 k ∧ n = .int .i64 z ∧ 0 ≤ z ∧ z ≤ 20000 ∧ Below w.heap.size w wr) (fun _ i _ => l.length - (intOf i).toNat)
  case atStart => exact ⟨0, 0, Nat.zero_le _, rfl, rfl, by decide, by decide, Below.refl _ _⟩
  case round =>
    obtain ⟨k, z, hk, rfl, rfl, hz0, hz1, hb⟩ := hrel
    have HB := hid hb
    by_cases hlt : k < l.length ∧ k < 300
    · obtain ⟨hlt, hk3⟩ := hlt
      obtain ⟨b, off, rfl, hbl, hc⟩ := H3.out (by intro h; simp [h] at hlt)
      have ck0 := (hb.cell (p := ⟨b, off + 2 * k, none⟩) hbl).trans (hc _ _ (flatP_at l k hlt).1)
      have ck1 := (hb.cell (p := ⟨b, off + (2 * k + 1), none⟩) hbl).trans (hc _ _ (flatP_at l k hlt).2)
      rw [Nat.mul_comm 2 k] at ck0 ck1
      rw [← Nat.add_assoc] at ck1
      have k0 : (0 : Int) ≤ (k : Int) := by omega
      have k1 : (k : Int) < (l.length : Int) := by omega
      have k2 : (k : Int) < 300 := by omega
      clear hc hb
      generalize l[k] = c at *
      obtain ⟨c1, c2⟩ := c
      simp only [fq] at ck0 ck1
      have n0 : (0 : Int) ≤ ((strOf c1).size : Int) := by omega
      have n1 : (0 : Int) ≤ ((strOf c2).size : Int) := by omega
      go_wp2_with fail
      go_region
      have HB2 := hid HB.out.drew
      generalize wr.drew = wx at *
      clear ck0 ck1
      have hz' : 0 ≤ min (z + min ((strOf c1).size : Int) 5000 + min ((strOf c2).size : Int) 5000) 20000 ∧ min (z + min ((strOf c1).size : Int) 5000 + min ((strOf c2).size : Int) 5000) 20000 ≤ 20000 := by omega
      generalize min (z + min ((strOf c1).size : Int) 5000 + min ((strOf c2).size : Int) 5000) 20000 = z2 at *
      go_wp2_with fail
      go_roundw
      case rel => exact ⟨k + 1, z2, by omega, by go_num, rfl, hz'.1, hz'.2, HB2.out⟩
      case measure => simp [intOf]; omega
    · have k3 : (k : Int) ≤ (l.length : Int) := by omega
      clear hb
      rcases Nat.lt_or_ge k l.length with q | q
      · have q1 : (k : Int) < (l.length : Int) := by omega
        have q2 : (300 : Int) ≤ (k : Int) := by omega
        have q3 : (300 : Int) < (l.length : Int) := by omega
        clear hlt
        go_wp2_with fail
        all_goals go_ret
        all_goals exact ⟨FewPost.no rfl, HB.out⟩
      · have q1 : (l.length : Int) ≤ (k : Int) := by omega
        clear hlt
        rcases Nat.lt_or_ge 300 l.length with q5 | q5
        · have q3 : (300 : Int) < (l.length : Int) := by omega
          go_wp2_with fail
          all_goals go_ret
          all_goals exact ⟨FewPost.no rfl, HB.out⟩
        · have q3 : (l.length : Int) ≤ 300 := by omega
          go_wp2_with fail
          all_goals go_ret
          all_goals exact ⟨FewPost.yes _ rfl q5, HB.out⟩
end Go.Proofs.YtilamfbpbgcnpaaDoor
/- FormTexts: the law's walk. -/
namespace Go.Proofs.YtilamfbpbgcnpaaDoor
open Go.RowKit Go.Shelf
set_option linter.unusedVariables false
set_option maxRecDepth 20000
set_option linter.unusedSimpArgs false
theorem pparse_row {s : List UInt8} {w w' : World} {e : Ending} (h : ParsePost s w e w') : ∃ a c, e = .returned (.tuple #[.slice a (parseR s).1.length c, .int .i64 ((parseR s).2 : Int)]) ∧ c ≤ maxLen ∧ PRow w' (.slice a (parseR s).1.length c) (parseR s).1 ∧ Below w.heap.size w w' := by
  obtain ⟨v, rfl, hv, hb⟩ := h
  have hv' := hv
  obtain ⟨a, c, rfl, _, hm, _⟩ := hv
  exact ⟨a, c, rfl, hm, hv', hb⟩
theorem parseR_len (s : List UInt8) : (parseR s).1.length ≤ 256 := by
  unfold parseR
  split
  · simp
  · split
    · simp
    · rw [curP_len]; omega
set_option maxRecDepth 20000 in
set_option maxHeartbeats 8000000 in
theorem formTexts_walk (s : ByteArray) (v : Value) (l : List Pr) (w : World) (T : MaxL w ∧ TabPc w) (h0 : s.size ≤ maxLen) (hv : PRow w v l) (hsz : ∀ p ∈ l, p.1.length ≤ 1100000 ∧ p.2.length ≤ 1100000) :
    Calls Tryd.prog 3 #[.string s, v] w fun e w' => e = .returned (.bool true) ∧ Below w.heap.size w w' := by
  have HT := hid T
  have H1 := hid (qfirst_calls w T.1)
  have HF := hid (fun w (T : MaxL w) => qfirst_calls w T)
  have HS := hid hsz
  have HV := hid hv
  obtain ⟨av, cv, rfl, _, hcm, _⟩ := hv
  unfold maxLen at hcm
  clear T h0 hsz
  go_enter Tryd.func3, Tryd.ntmps3
  go_wp2_with fail
  refine H1.out.mono ?_
  rintro e w1 ⟨rfl, hb1⟩
  have HB1 := hid hb1
  have HT1 := hid (HT.out.1.below hb1)
  have HP1 := hid (HT.out.2.below hb1)
  have HV1 := hid (HV.out.below hb1)
  clear hb1 H1 HV
  rcases Nat.lt_or_ge 5000 s.size with hs | hs
  · have q1 : (5000 : Int) < (s.size : Int) := by omega
    clear hs
    go_wp2_with fail
    refine (HF.out w1 HT1.out).mono ?_
    rintro e w2 ⟨rfl, hb⟩
    have HB2 := hid (HB1.out.trans (hb.mono HB1.out.size))
    clear hb
    go_wp2_with fail
    go_ret
    exact ⟨rfl, HB2.out⟩
  · have q1 : (s.size : Int) ≤ 5000 := by omega
    clear hs
    go_wp2_with fail
    refine (few_calls _ l w1 HV1.out).mono ?_
    rintro e w2 ⟨⟨bf, rfl, hbf⟩, hb⟩
    have HB2 := hid (HB1.out.trans (hb.mono HB1.out.size))
    have HT2 := hid (HT1.out.below hb)
    have HP2 := hid (HP1.out.below hb)
    have HV2 := hid (HV1.out.below hb)
    clear hb
    cases bf with
    | false =>
      clear hbf
      go_wp2_with fail
      refine (HF.out w2 HT2.out).mono ?_
      rintro e w3 ⟨rfl, hb⟩
      have HB3 := hid (HB2.out.trans (hb.mono HB2.out.size))
      clear hb
      go_wp2_with fail
      go_ret
      exact ⟨rfl, HB3.out⟩
    | true =>
      have HL := hid (hbf rfl)
      clear hbf
      have HE := hid ((Below.refl w2.heap.size w2).alloc (Nat.le_refl _) (.cells #[] 36))
      have hE0 : POwn (w2.alloc (.cells #[] 36)) w2.heap.size (.slice (some ⟨w2.heap.size, 0, none⟩) 0 0) [] := World.ownsRow_lit w2 #[] 0 (Nat.le_refl _) (by unfold maxLen; omega) rfl
      obtain ⟨v1, w3, r1, o1, gr1⟩ := pappend_row hE0 (HV2.out.below HE.out) (by have := HL.out; simp; omega) (by simp)
      have hb3 : Below w2.heap.size w2 w3 := HE.out.grown gr1 (by simp) (fun k hk => (World.ownsRow.lt hE0 k hk).1)
      rw [List.nil_append] at o1
      have HI3 := hid (POwn.row o1)
      have HB3 := hid (HB2.out.trans (hb3.mono HB2.out.size))
      have HT3 := hid (HT2.out.below hb3)
      have HP3 := hid (HP2.out.below hb3)
      have HV3 := hid (HV2.out.below hb3)
      have R1 := hid r1
      have hir := POwn.row o1
      obtain ⟨ai, ci, rfl, hi1, hi2, _⟩ := hir
      unfold maxLen at hi2
      clear hE0 r1 o1 gr1 hb3
      go_wp2_with (at_builtin; go_must (first | (refine wpList_append_run R1.out rfl _ _ rfl rfl rfl rfl ?_) | (refine wpList_append_on R1.out rfl _ _ rfl rfl rfl rfl ?_)))
      refine (parse_calls s w3 HT3.out).mono ?_
      rintro e w4 hp
      obtain ⟨a4, c4, rfl, hm4, hr4, hb⟩ := pparse_row hp
      have HB4 := hid (HB3.out.trans (hb.mono HB3.out.size))
      have HT4 := hid (HT3.out.below hb)
      have HP4 := hid (HP3.out.below hb)
      have HV4 := hid (HV3.out.below hb)
      have HI4 := hid (HI3.out.below hb)
      have HR4 := hid hr4
      unfold maxLen at hm4
      clear hb hr4 hp
      go_wp2_with fail
      refine (parseForm_calls s w4).mono ?_
      rintro e w5 hp
      obtain ⟨a5, c5, rfl, hm5, hr5, hb⟩ := pparse_row hp
      have HB5 := hid (HB4.out.trans (hb.mono HB4.out.size))
      have HT5 := hid (HT4.out.below hb)
      have HP5 := hid (HP4.out.below hb)
      have HV5 := hid (HV4.out.below hb)
      have HI5 := hid (HI4.out.below hb)
      have HQ5 := hid (HR4.out.below hb)
      have HR5 := hid hr5
      have HLn := hid (parseR_len s.data.toList)
      unfold maxLen at hm5
      clear hb hr5 hp
      generalize (parseR s.data.toList).1 = R at *
      generalize (parseR s.data.toList).2 = N at *
      go_wp2_with fail
      refine (HF.out w5 HT5.out).mono ?_
      rintro e w6 ⟨rfl, hb⟩
      have HB6 := hid (HB5.out.trans (hb.mono HB5.out.size))
      have HT6 := hid (HT5.out.below hb)
      have HP6 := hid (HP5.out.below hb)
      have HV6 := hid (HV5.out.below hb)
      have HI6 := hid (HI5.out.below hb)
      have HQ6 := hid (HQ5.out.below hb)
      have HR6 := hid (HR5.out.below hb)
      clear hb
      go_wp2_with fail
      refine (pairs_calls _ _ R R w6 HQ6.out HR6.out (by have := HLn.out; omega)).mono ?_
      rintro e w7 ⟨rfl, hb⟩
      rw [beq_self_eq_true]
      have HB7 := hid (HB6.out.trans (hb.mono HB6.out.size))
      have HP7 := hid (HP6.out.below hb)
      have HV7 := hid (HV6.out.below hb)
      have HI7 := hid (HI6.out.below hb)
      clear hb
      go_wp2_with fail
      refine (print_calls _ l w7 HP7.out HI7.out (by have := HL.out; omega) HS.out).mono ?_
      rintro e w8 ⟨rfl, hb⟩
      have HB8 := hid (HB7.out.trans (hb.mono HB7.out.size))
      have HV8 := hid (HV7.out.below hb)
      have HI8 := hid (HI7.out.below hb)
      clear hb
      go_wp2_with fail
      refine (printForm_calls _ l w8 HV8.out (by have := HL.out; omega) HS.out).mono ?_
      rintro e w9 ⟨rfl, hb⟩
      have HB9 := hid (HB8.out.trans (hb.mono HB8.out.size))
      have HV9 := hid (HV8.out.below hb)
      have HI9 := hid (HI8.out.below hb)
      clear hb
      generalize printR l = Z at *
      go_wp2_with fail
      refine (names_calls _ l w9 HI9.out (by have := HL.out; omega) (fun p hp => (HS.out p hp).1)).mono ?_
      rintro e w10 ⟨⟨n1, rfl, hn1⟩, hb⟩
      have HB10 := hid (HB9.out.trans (hb.mono HB9.out.size))
      have HV10 := hid (HV9.out.below hb)
      have HI10 := hid (HI9.out.below hb)
      have HN10 := hid hn1
      clear hb hn1
      go_wp2_with fail
      refine (names2_calls _ l w10 HV10.out (by have := HL.out; omega)).mono ?_
      rintro e w11 ⟨⟨n2, rfl, hn2⟩, hb⟩
      have HB11 := hid (HB10.out.trans (hb.mono HB10.out.size))
      have HV11 := hid (HV10.out.below hb)
      have HI11 := hid (HI10.out.below hb)
      have HN11 := hid (HN10.out.below hb)
      have HM11 := hid hn2
      clear hb hn2
      go_wp2_with fail
      refine (texts_same _ _ (namesR l) w11 HN11.out HM11.out (by have := HL.out; have := namesR_len l; omega)).mono ?_
      rintro e w12 ⟨rfl, hb⟩
      have HB12 := hid (HB11.out.trans (hb.mono HB11.out.size))
      have HV12 := hid (HV11.out.below hb)
      have HI12 := hid (HI11.out.below hb)
      clear hb
      go_wp2_with fail
      refine (pairs_calls _ _ l l w12 HI12.out HV12.out (by have := HL.out; omega)).mono ?_
      rintro e w13 ⟨rfl, hb⟩
      rw [beq_self_eq_true]
      have HB13 := hid (HB12.out.trans (hb.mono HB12.out.size))
      clear hb
      go_wp2_with fail
      go_ret
      exact ⟨rfl, HB13.out⟩
end Go.Proofs.YtilamfbpbgcnpaaDoor
