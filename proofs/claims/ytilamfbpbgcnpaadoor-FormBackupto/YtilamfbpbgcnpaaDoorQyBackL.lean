/- FormBack: pairs of UTF-8 come back; what is read is printed and read as the same. (Written by mk_qyback.py.) -/
import Derived.Test.YtilamfbpbgcnpaaDoorQyT
import Derived.Test.YtilamfbpbgcnpaaDoorQyU
import Derived.Test.YtilamfbpbgcnpaaDoorQyV
namespace Go.Proofs.YtilamfbpbgcnpaaDoor
open Go.RowKit Go.Shelf
set_option linter.unusedVariables false
set_option maxRecDepth 20000
set_option linter.unusedSimpArgs false
theorem encN_len4 (c : Nat) : (encN c).length ≤ 4 := (enc_len c).2
theorem text_len (l : List Int) : (textL l).length ≤ 4 * l.length := by
  unfold textL
  have := encL_len (l.map fix)
  rwa [List.length_map] at this
theorem plain_len (x : List UInt8) : (plainR x).length ≤ 8 * x.length := by
  unfold plainR
  have h1 := text_len (lossyL (unR (Lib.replaceAll x [43] [32])))
  have h2 := (lossy_all _ (unR (Lib.replaceAll x [43] [32])) (Nat.le_refl _)).2
  have h3 := unR_len _ _ (Nat.le_refl (Lib.replaceAll x [43] [32]).length)
  have h4 : (Lib.replaceAll x [43] [32]).length = x.length := by rw [rep_map, List.length_map]
  omega
theorem prs_size {s : List UInt8} : ∀ p ∈ prsR s, p.1.length ≤ 8 * s.length ∧ p.2.length ≤ 8 * s.length := by
  intro p hp
  obtain ⟨x, hx, rfl⟩ := List.mem_map.1 hp
  have hx2 : x ∈ splitR 38 s := (List.mem_filter.1 hx).1
  have h1 := splitG_mem 38 _ _ x hx2
  have h2 := cut_len x [61]
  have h3 := plain_len (Lib.cut x [61]).1
  have h4 := plain_len (Lib.cut x [61]).2.1
  unfold pairR
  simp at h1
  constructor <;> simp only <;> omega
theorem pparse_long {s : List UInt8} {w w' : World} {e : Ending} (h : ParsePost s w e w') (h1 : 4000 < s.length) : ∃ a c, e = .returned (.tuple #[.slice a 0 c, .int .i64 3]) ∧ Below w.heap.size w w' := by
  obtain ⟨v, rfl, hv, hb⟩ := h
  rw [parse_long h1] at hv ⊢
  obtain ⟨a, c, rfl, _⟩ := hv
  exact ⟨a, c, rfl, hb⟩
theorem utf_prs (s : List UInt8) : utfB (prsR s) = true := utf_iff.2 (prs_U8 s)
set_option maxRecDepth 20000 in
set_option maxHeartbeats 8000000 in
theorem formBack_walk (s : ByteArray) (v : Value) (l : List Pr) (w : World) (T : MaxL w ∧ TabPc w) (h0 : s.size ≤ maxLen) (hv : PRow w v l) (hsz : ∀ p ∈ l, p.1.length ≤ 1100000 ∧ p.2.length ≤ 1100000) :
    Calls Tryd.prog 4 #[.string s, v] w fun e w' => e = .returned (.bool true) ∧ Below w.heap.size w w' := by
  have HT := hid T
  have H1 := hid (qfirst_calls w T.1)
  have HF := hid (fun w (T : MaxL w) => qfirst_calls w T)
  have HS := hid hsz
  have HV := hid hv
  obtain ⟨av, cv, rfl, _, hcm, _⟩ := hv
  unfold maxLen at hcm
  clear T h0 hsz
  go_enter Tryd.func4, Tryd.ntmps4
  go_wp2_with fail
  refine H1.out.mono ?_
  rintro e w1 ⟨rfl, hb1⟩
  have HB1 := hid hb1
  have HT1 := hid (HT.out.1.below hb1)
  have HP1 := hid (HT.out.2.below hb1)
  have HV1 := hid (HV.out.below hb1)
  clear hb1 H1 HV
  rcases Nat.lt_or_ge 5000 s.size with hs | hs
  · have q1 : (5000 : Int) < (s.size : Int) := by omega
    clear hs
    go_wp2_with fail
    refine (HF.out w1 HT1.out).mono ?_
    rintro e w2 ⟨rfl, hb⟩
    have HB2 := hid (HB1.out.trans (hb.mono HB1.out.size))
    have HT2 := hid (HT1.out.below hb)
    clear hb
    go_wp2_with fail
    go_ret
    exact ⟨rfl, HB2.out⟩
  · have q1 : (s.size : Int) ≤ 5000 := by omega
    have HSz := hid hs
    clear hs
    have HN := hid (bytes_num s)
    go_wp2_with fail
    refine (few_calls _ l w1 HV1.out).mono ?_
    rintro e w2 ⟨⟨bf, rfl, hbf⟩, hb⟩
    have HB2 := hid (HB1.out.trans (hb.mono HB1.out.size))
    have HT2 := hid (HT1.out.below hb)
    have HP2 := hid (HP1.out.below hb)
    have HV2 := hid (HV1.out.below hb)
    clear hb
    cases bf with
    | false =>
      clear hbf
      go_wp2_with fail
      refine (HF.out w2 HT2.out).mono ?_
      rintro e w3 ⟨rfl, hb⟩
      have HB3 := hid (HB2.out.trans (hb.mono HB2.out.size))
      have HT3 := hid (HT2.out.below hb)
      clear hb
      go_wp2_with fail
      go_ret
      exact ⟨rfl, HB3.out⟩
    | true =>
      have HL := hid (hbf rfl)
      clear hbf
      go_wp2_with fail
      refine (print_calls _ l w2 HP2.out HV2.out (by have := HL.out; omega) HS.out).mono ?_
      rintro e w3 ⟨rfl, hb⟩
      have HB3 := hid (HB2.out.trans (hb.mono HB2.out.size))
      have HT3 := hid (HT2.out.below hb)
      have HP3 := hid (HP2.out.below hb)
      have HV3 := hid (HV2.out.below hb)
      clear hb
      go_wp2_with fail
      have P1 := hid (parse_calls (strOf (printR l)) w3 HT3.out)
      cases hu : utfB l with
      | false =>
        refine P1.out.mono ?_
        rintro e w4 hp
        obtain ⟨a5, n5, c5, e5, rfl, hb⟩ := pparse_any hp
        have HB4 := hid (HB3.out.trans (hb.mono HB3.out.size))
        have HT4 := hid (HT3.out.below hb)
        have HP4 := hid (HP3.out.below hb)
        have HV4 := hid (HV3.out.below hb)
        clear hb hp P1
        go_wp2_with fail
        refine (utf_calls _ l w4 HV4.out HS.out).mono ?_
        rintro e w5 ⟨rfl, hb⟩
        have HB5 := hid (HB4.out.trans (hb.mono HB4.out.size))
        have HT5 := hid (HT4.out.below hb)
        have HP5 := hid (HP4.out.below hb)
        have HV5 := hid (HV4.out.below hb)
        clear hb
        rw [hu]
        clear hu
        go_wp2_with fail
        refine (parse_calls s w5 HT5.out).mono ?_
        rintro e w6 hp
        rcases Nat.lt_or_ge 4000 s.size with z1 | z1
        · obtain ⟨a7, c7, rfl, hb⟩ := pparse_long (s := s.data.toList) hp (by rw [HN.out]; exact z1)
          have HB6 := hid (HB5.out.trans (hb.mono HB5.out.size))
          have HT6 := hid (HT5.out.below hb)
          have HP6 := hid (HP5.out.below hb)
          clear hb hp
          go_wp2_with fail
          refine (HF.out w6 HT6.out).mono ?_
          rintro e w7 ⟨rfl, hb⟩
          have HB7 := hid (HB6.out.trans (hb.mono HB6.out.size))
          have HT7 := hid (HT6.out.below hb)
          clear hb
          go_wp2_with fail
          go_ret
          exact ⟨rfl, HB7.out⟩
        · have zl : s.data.toList.length ≤ 4000 := by rw [HN.out]; exact z1
          rcases Nat.lt_or_ge 256 (cntR s.data.toList) with z2 | z2
          · obtain ⟨a7, c7, rfl, hb⟩ := pparse_many (s := s.data.toList) hp zl z2
            have HB6 := hid (HB5.out.trans (hb.mono HB5.out.size))
            have HT6 := hid (HT5.out.below hb)
            have HP6 := hid (HP5.out.below hb)
            clear hb hp
            go_wp2_with fail
            refine (HF.out w6 HT6.out).mono ?_
            rintro e w7 ⟨rfl, hb⟩
            have HB7 := hid (HB6.out.trans (hb.mono HB6.out.size))
            have HT7 := hid (HT6.out.below hb)
            clear hb
            go_wp2_with fail
            go_ret
            exact ⟨rfl, HB7.out⟩
          · obtain ⟨a7, c7, rfl, hr, hb⟩ := pparse_ok (s := s.data.toList) hp zl z2
            have HB6 := hid (HB5.out.trans (hb.mono HB5.out.size))
            have HT6 := hid (HT5.out.below hb)
            have HP6 := hid (HP5.out.below hb)
            have HA6 := hid hr
            have HZ := hid (fun p (hp : p ∈ prsR s.data.toList) => prs_size p hp)
            have HLn := hid (prsR_len s.data.toList)
            have HC := hid z2
            have HZl := hid zl
            have HU := hid (utf_prs s.data.toList)
            have HPb := hid (And.intro (prs_print (prsR s.data.toList) (prs_U8 s.data.toList)) (cnt_print (prsR s.data.toList)))
            clear hb hp hr z1 zl
            generalize prsR s.data.toList = A at *
            generalize cntR s.data.toList = cn at *
            have HZz : Hid (∀ p ∈ A, p.1.length ≤ 1100000 ∧ p.2.length ≤ 1100000) := hid (fun p hp => by have := HZ.out p hp; have := HZl.out; omega)
            go_wp2_with fail
            refine (print_calls _ A w6 HP6.out HA6.out (by have := HLn.out; have := HC.out; omega) HZz.out).mono ?_
            rintro e w7 ⟨rfl, hb⟩
            have HB7 := hid (HB6.out.trans (hb.mono HB6.out.size))
            have HT7 := hid (HT6.out.below hb)
            have HP7 := hid (HP6.out.below hb)
            have HA7 := hid (HA6.out.below hb)
            clear hb z2
            go_wp2_with fail
            refine (parse_calls (strOf (printR A)) w7 HT7.out).mono ?_
            rintro e w8 hp
            rcases Nat.lt_or_ge 4000 (printR A).length with y1 | y1
            · obtain ⟨a8, c8, rfl, hb⟩ := pparse_long (s := printR A) hp y1
              have HB8 := hid (HB7.out.trans (hb.mono HB7.out.size))
              have HT8 := hid (HT7.out.below hb)
              have HP8 := hid (HP7.out.below hb)
              have HA8 := hid (HA7.out.below hb)
              have y2 : (4000 : Int) < ((strOf (printR A)).size : Int) := by show (4000 : Int) < (((printR A).length : Nat) : Int); omega
              clear hb hp y1
              go_wp2_with fail
              refine (HF.out w8 HT8.out).mono ?_
              rintro e w9 ⟨rfl, hb⟩
              have HB9 := hid (HB8.out.trans (hb.mono HB8.out.size))
              have HT9 := hid (HT8.out.below hb)
              have HA9 := hid (HA8.out.below hb)
              clear hb
              go_wp2_with fail
              refine (utf_calls _ A w9 HA9.out HZz.out).mono ?_
              rintro e w10 ⟨rfl, hb⟩
              have HB10 := hid (HB9.out.trans (hb.mono HB9.out.size))
              rw [HU.out]
              clear hb
              go_wp2_with fail
              go_ret
              exact ⟨rfl, HB10.out⟩
            · obtain ⟨a8, c8, rfl, hr, hb⟩ := pparse_ok (s := printR A) hp y1 (by rw [HPb.out.2]; have := HLn.out; have := HC.out; omega)
              have HB8 := hid (HB7.out.trans (hb.mono HB7.out.size))
              have HT8 := hid (HT7.out.below hb)
              have HP8 := hid (HP7.out.below hb)
              have HA8 := hid (HA7.out.below hb)
              rw [HPb.out.1] at hr
              have HM8 := hid hr
              have y2 : ((strOf (printR A)).size : Int) ≤ 4000 := by show (((printR A).length : Nat) : Int) ≤ 4000; omega
              clear hb hp y1 hr
              go_wp2_with fail
              refine (HF.out w8 HT8.out).mono ?_
              rintro e w9 ⟨rfl, hb⟩
              have HB9 := hid (HB8.out.trans (hb.mono HB8.out.size))
              have HT9 := hid (HT8.out.below hb)
              have HA9 := hid (HA8.out.below hb)
              have HM9 := hid (HM8.out.below hb)
              clear hb
              go_wp2_with fail
              refine (utf_calls _ A w9 HA9.out HZz.out).mono ?_
              rintro e w10 ⟨rfl, hb⟩
              have HB10 := hid (HB9.out.trans (hb.mono HB9.out.size))
              have HA10 := hid (HA9.out.below hb)
              have HM10 := hid (HM9.out.below hb)
              rw [HU.out]
              clear hb
              go_wp2_with fail
              refine (pairs_calls _ _ A A w10 HM10.out HA10.out (by have := HLn.out; have := HC.out; omega)).mono ?_
              rintro e w11 ⟨rfl, hb⟩
              have HB11 := hid (HB10.out.trans (hb.mono HB10.out.size))
              rw [beq_self_eq_true]
              clear hb
              go_wp2_with fail
              go_ret
              exact ⟨rfl, HB11.out⟩
      | true =>
        rcases Nat.lt_or_ge 4000 (printR l).length with g1 | g1
        · have y0 : (4000 : Int) < ((strOf (printR l)).size : Int) := by show (4000 : Int) < (((printR l).length : Nat) : Int); omega
          clear g1
          refine P1.out.mono ?_
          rintro e w4 hp
          obtain ⟨a5, n5, c5, e5, rfl, hb⟩ := pparse_any hp
          have HB4 := hid (HB3.out.trans (hb.mono HB3.out.size))
          have HT4 := hid (HT3.out.below hb)
          have HP4 := hid (HP3.out.below hb)
          have HV4 := hid (HV3.out.below hb)
          clear hb hp P1
          go_wp2_with fail
          refine (utf_calls _ l w4 HV4.out HS.out).mono ?_
          rintro e w5 ⟨rfl, hb⟩
          have HB5 := hid (HB4.out.trans (hb.mono HB4.out.size))
          have HT5 := hid (HT4.out.below hb)
          have HP5 := hid (HP4.out.below hb)
          have HV5 := hid (HV4.out.below hb)
          clear hb
          rw [hu]
          clear hu
          go_wp2_with fail
          refine (parse_calls s w5 HT5.out).mono ?_
          rintro e w6 hp
          rcases Nat.lt_or_ge 4000 s.size with z1 | z1
          · obtain ⟨a7, c7, rfl, hb⟩ := pparse_long (s := s.data.toList) hp (by rw [HN.out]; exact z1)
            have HB6 := hid (HB5.out.trans (hb.mono HB5.out.size))
            have HT6 := hid (HT5.out.below hb)
            have HP6 := hid (HP5.out.below hb)
            clear hb hp
            go_wp2_with fail
            refine (HF.out w6 HT6.out).mono ?_
            rintro e w7 ⟨rfl, hb⟩
            have HB7 := hid (HB6.out.trans (hb.mono HB6.out.size))
            have HT7 := hid (HT6.out.below hb)
            clear hb
            go_wp2_with fail
            go_ret
            exact ⟨rfl, HB7.out⟩
          · have zl : s.data.toList.length ≤ 4000 := by rw [HN.out]; exact z1
            rcases Nat.lt_or_ge 256 (cntR s.data.toList) with z2 | z2
            · obtain ⟨a7, c7, rfl, hb⟩ := pparse_many (s := s.data.toList) hp zl z2
              have HB6 := hid (HB5.out.trans (hb.mono HB5.out.size))
              have HT6 := hid (HT5.out.below hb)
              have HP6 := hid (HP5.out.below hb)
              clear hb hp
              go_wp2_with fail
              refine (HF.out w6 HT6.out).mono ?_
              rintro e w7 ⟨rfl, hb⟩
              have HB7 := hid (HB6.out.trans (hb.mono HB6.out.size))
              have HT7 := hid (HT6.out.below hb)
              clear hb
              go_wp2_with fail
              go_ret
              exact ⟨rfl, HB7.out⟩
            · obtain ⟨a7, c7, rfl, hr, hb⟩ := pparse_ok (s := s.data.toList) hp zl z2
              have HB6 := hid (HB5.out.trans (hb.mono HB5.out.size))
              have HT6 := hid (HT5.out.below hb)
              have HP6 := hid (HP5.out.below hb)
              have HA6 := hid hr
              have HZ := hid (fun p (hp : p ∈ prsR s.data.toList) => prs_size p hp)
              have HLn := hid (prsR_len s.data.toList)
              have HC := hid z2
              have HZl := hid zl
              have HU := hid (utf_prs s.data.toList)
              have HPb := hid (And.intro (prs_print (prsR s.data.toList) (prs_U8 s.data.toList)) (cnt_print (prsR s.data.toList)))
              clear hb hp hr z1 zl
              generalize prsR s.data.toList = A at *
              generalize cntR s.data.toList = cn at *
              have HZz : Hid (∀ p ∈ A, p.1.length ≤ 1100000 ∧ p.2.length ≤ 1100000) := hid (fun p hp => by have := HZ.out p hp; have := HZl.out; omega)
              go_wp2_with fail
              refine (print_calls _ A w6 HP6.out HA6.out (by have := HLn.out; have := HC.out; omega) HZz.out).mono ?_
              rintro e w7 ⟨rfl, hb⟩
              have HB7 := hid (HB6.out.trans (hb.mono HB6.out.size))
              have HT7 := hid (HT6.out.below hb)
              have HP7 := hid (HP6.out.below hb)
              have HA7 := hid (HA6.out.below hb)
              clear hb z2
              go_wp2_with fail
              refine (parse_calls (strOf (printR A)) w7 HT7.out).mono ?_
              rintro e w8 hp
              rcases Nat.lt_or_ge 4000 (printR A).length with y1 | y1
              · obtain ⟨a8, c8, rfl, hb⟩ := pparse_long (s := printR A) hp y1
                have HB8 := hid (HB7.out.trans (hb.mono HB7.out.size))
                have HT8 := hid (HT7.out.below hb)
                have HP8 := hid (HP7.out.below hb)
                have HA8 := hid (HA7.out.below hb)
                have y2 : (4000 : Int) < ((strOf (printR A)).size : Int) := by show (4000 : Int) < (((printR A).length : Nat) : Int); omega
                clear hb hp y1
                go_wp2_with fail
                refine (HF.out w8 HT8.out).mono ?_
                rintro e w9 ⟨rfl, hb⟩
                have HB9 := hid (HB8.out.trans (hb.mono HB8.out.size))
                have HT9 := hid (HT8.out.below hb)
                have HA9 := hid (HA8.out.below hb)
                clear hb
                go_wp2_with fail
                refine (utf_calls _ A w9 HA9.out HZz.out).mono ?_
                rintro e w10 ⟨rfl, hb⟩
                have HB10 := hid (HB9.out.trans (hb.mono HB9.out.size))
                rw [HU.out]
                clear hb
                go_wp2_with fail
                go_ret
                exact ⟨rfl, HB10.out⟩
              · obtain ⟨a8, c8, rfl, hr, hb⟩ := pparse_ok (s := printR A) hp y1 (by rw [HPb.out.2]; have := HLn.out; have := HC.out; omega)
                have HB8 := hid (HB7.out.trans (hb.mono HB7.out.size))
                have HT8 := hid (HT7.out.below hb)
                have HP8 := hid (HP7.out.below hb)
                have HA8 := hid (HA7.out.below hb)
                rw [HPb.out.1] at hr
                have HM8 := hid hr
                have y2 : ((strOf (printR A)).size : Int) ≤ 4000 := by show (((printR A).length : Nat) : Int) ≤ 4000; omega
                clear hb hp y1 hr
                go_wp2_with fail
                refine (HF.out w8 HT8.out).mono ?_
                rintro e w9 ⟨rfl, hb⟩
                have HB9 := hid (HB8.out.trans (hb.mono HB8.out.size))
                have HT9 := hid (HT8.out.below hb)
                have HA9 := hid (HA8.out.below hb)
                have HM9 := hid (HM8.out.below hb)
                clear hb
                go_wp2_with fail
                refine (utf_calls _ A w9 HA9.out HZz.out).mono ?_
                rintro e w10 ⟨rfl, hb⟩
                have HB10 := hid (HB9.out.trans (hb.mono HB9.out.size))
                have HA10 := hid (HA9.out.below hb)
                have HM10 := hid (HM9.out.below hb)
                rw [HU.out]
                clear hb
                go_wp2_with fail
                refine (pairs_calls _ _ A A w10 HM10.out HA10.out (by have := HLn.out; have := HC.out; omega)).mono ?_
                rintro e w11 ⟨rfl, hb⟩
                have HB11 := hid (HB10.out.trans (hb.mono HB10.out.size))
                rw [beq_self_eq_true]
                clear hb
                go_wp2_with fail
                go_ret
                exact ⟨rfl, HB11.out⟩
        · have y0 : ((strOf (printR l)).size : Int) ≤ 4000 := by show (((printR l).length : Nat) : Int) ≤ 4000; omega
          rcases Nat.lt_or_ge 256 l.length with g2 | g2
          · have y3 : (256 : Int) < (l.length : Int) := by omega
            clear g1 g2
            refine P1.out.mono ?_
            rintro e w4 hp
            obtain ⟨a5, n5, c5, e5, rfl, hb⟩ := pparse_any hp
            have HB4 := hid (HB3.out.trans (hb.mono HB3.out.size))
            have HT4 := hid (HT3.out.below hb)
            have HP4 := hid (HP3.out.below hb)
            have HV4 := hid (HV3.out.below hb)
            clear hb hp P1
            go_wp2_with fail
            refine (utf_calls _ l w4 HV4.out HS.out).mono ?_
            rintro e w5 ⟨rfl, hb⟩
            have HB5 := hid (HB4.out.trans (hb.mono HB4.out.size))
            have HT5 := hid (HT4.out.below hb)
            have HP5 := hid (HP4.out.below hb)
            have HV5 := hid (HV4.out.below hb)
            clear hb
            rw [hu]
            clear hu
            go_wp2_with fail
            refine (parse_calls s w5 HT5.out).mono ?_
            rintro e w6 hp
            rcases Nat.lt_or_ge 4000 s.size with z1 | z1
            · obtain ⟨a7, c7, rfl, hb⟩ := pparse_long (s := s.data.toList) hp (by rw [HN.out]; exact z1)
              have HB6 := hid (HB5.out.trans (hb.mono HB5.out.size))
              have HT6 := hid (HT5.out.below hb)
              have HP6 := hid (HP5.out.below hb)
              clear hb hp
              go_wp2_with fail
              refine (HF.out w6 HT6.out).mono ?_
              rintro e w7 ⟨rfl, hb⟩
              have HB7 := hid (HB6.out.trans (hb.mono HB6.out.size))
              have HT7 := hid (HT6.out.below hb)
              clear hb
              go_wp2_with fail
              go_ret
              exact ⟨rfl, HB7.out⟩
            · have zl : s.data.toList.length ≤ 4000 := by rw [HN.out]; exact z1
              rcases Nat.lt_or_ge 256 (cntR s.data.toList) with z2 | z2
              · obtain ⟨a7, c7, rfl, hb⟩ := pparse_many (s := s.data.toList) hp zl z2
                have HB6 := hid (HB5.out.trans (hb.mono HB5.out.size))
                have HT6 := hid (HT5.out.below hb)
                have HP6 := hid (HP5.out.below hb)
                clear hb hp
                go_wp2_with fail
                refine (HF.out w6 HT6.out).mono ?_
                rintro e w7 ⟨rfl, hb⟩
                have HB7 := hid (HB6.out.trans (hb.mono HB6.out.size))
                have HT7 := hid (HT6.out.below hb)
                clear hb
                go_wp2_with fail
                go_ret
                exact ⟨rfl, HB7.out⟩
              · obtain ⟨a7, c7, rfl, hr, hb⟩ := pparse_ok (s := s.data.toList) hp zl z2
                have HB6 := hid (HB5.out.trans (hb.mono HB5.out.size))
                have HT6 := hid (HT5.out.below hb)
                have HP6 := hid (HP5.out.below hb)
                have HA6 := hid hr
                have HZ := hid (fun p (hp : p ∈ prsR s.data.toList) => prs_size p hp)
                have HLn := hid (prsR_len s.data.toList)
                have HC := hid z2
                have HZl := hid zl
                have HU := hid (utf_prs s.data.toList)
                have HPb := hid (And.intro (prs_print (prsR s.data.toList) (prs_U8 s.data.toList)) (cnt_print (prsR s.data.toList)))
                clear hb hp hr z1 zl
                generalize prsR s.data.toList = A at *
                generalize cntR s.data.toList = cn at *
                have HZz : Hid (∀ p ∈ A, p.1.length ≤ 1100000 ∧ p.2.length ≤ 1100000) := hid (fun p hp => by have := HZ.out p hp; have := HZl.out; omega)
                go_wp2_with fail
                refine (print_calls _ A w6 HP6.out HA6.out (by have := HLn.out; have := HC.out; omega) HZz.out).mono ?_
                rintro e w7 ⟨rfl, hb⟩
                have HB7 := hid (HB6.out.trans (hb.mono HB6.out.size))
                have HT7 := hid (HT6.out.below hb)
                have HP7 := hid (HP6.out.below hb)
                have HA7 := hid (HA6.out.below hb)
                clear hb z2
                go_wp2_with fail
                refine (parse_calls (strOf (printR A)) w7 HT7.out).mono ?_
                rintro e w8 hp
                rcases Nat.lt_or_ge 4000 (printR A).length with y1 | y1
                · obtain ⟨a8, c8, rfl, hb⟩ := pparse_long (s := printR A) hp y1
                  have HB8 := hid (HB7.out.trans (hb.mono HB7.out.size))
                  have HT8 := hid (HT7.out.below hb)
                  have HP8 := hid (HP7.out.below hb)
                  have HA8 := hid (HA7.out.below hb)
                  have y2 : (4000 : Int) < ((strOf (printR A)).size : Int) := by show (4000 : Int) < (((printR A).length : Nat) : Int); omega
                  clear hb hp y1
                  go_wp2_with fail
                  refine (HF.out w8 HT8.out).mono ?_
                  rintro e w9 ⟨rfl, hb⟩
                  have HB9 := hid (HB8.out.trans (hb.mono HB8.out.size))
                  have HT9 := hid (HT8.out.below hb)
                  have HA9 := hid (HA8.out.below hb)
                  clear hb
                  go_wp2_with fail
                  refine (utf_calls _ A w9 HA9.out HZz.out).mono ?_
                  rintro e w10 ⟨rfl, hb⟩
                  have HB10 := hid (HB9.out.trans (hb.mono HB9.out.size))
                  rw [HU.out]
                  clear hb
                  go_wp2_with fail
                  go_ret
                  exact ⟨rfl, HB10.out⟩
                · obtain ⟨a8, c8, rfl, hr, hb⟩ := pparse_ok (s := printR A) hp y1 (by rw [HPb.out.2]; have := HLn.out; have := HC.out; omega)
                  have HB8 := hid (HB7.out.trans (hb.mono HB7.out.size))
                  have HT8 := hid (HT7.out.below hb)
                  have HP8 := hid (HP7.out.below hb)
                  have HA8 := hid (HA7.out.below hb)
                  rw [HPb.out.1] at hr
                  have HM8 := hid hr
                  have y2 : ((strOf (printR A)).size : Int) ≤ 4000 := by show (((printR A).length : Nat) : Int) ≤ 4000; omega
                  clear hb hp y1 hr
                  go_wp2_with fail
                  refine (HF.out w8 HT8.out).mono ?_
                  rintro e w9 ⟨rfl, hb⟩
                  have HB9 := hid (HB8.out.trans (hb.mono HB8.out.size))
                  have HT9 := hid (HT8.out.below hb)
                  have HA9 := hid (HA8.out.below hb)
                  have HM9 := hid (HM8.out.below hb)
                  clear hb
                  go_wp2_with fail
                  refine (utf_calls _ A w9 HA9.out HZz.out).mono ?_
                  rintro e w10 ⟨rfl, hb⟩
                  have HB10 := hid (HB9.out.trans (hb.mono HB9.out.size))
                  have HA10 := hid (HA9.out.below hb)
                  have HM10 := hid (HM9.out.below hb)
                  rw [HU.out]
                  clear hb
                  go_wp2_with fail
                  refine (pairs_calls _ _ A A w10 HM10.out HA10.out (by have := HLn.out; have := HC.out; omega)).mono ?_
                  rintro e w11 ⟨rfl, hb⟩
                  have HB11 := hid (HB10.out.trans (hb.mono HB10.out.size))
                  rw [beq_self_eq_true]
                  clear hb
                  go_wp2_with fail
                  go_ret
                  exact ⟨rfl, HB11.out⟩
          · have y3 : (l.length : Int) ≤ 256 := by omega
            refine P1.out.mono ?_
            rintro e w4 hp
            obtain ⟨a5, c5, rfl, hr, hb⟩ := pparse_ok (s := printR l) hp g1 (by rw [cnt_print]; exact g2)
            rw [prs_print l (utf_iff.1 hu), cnt_print] at hr
            rw [cnt_print]
            have HB4 := hid (HB3.out.trans (hb.mono HB3.out.size))
            have HT4 := hid (HT3.out.below hb)
            have HP4 := hid (HP3.out.below hb)
            have HV4 := hid (HV3.out.below hb)
            have HM4 := hid hr
            have HG2 := hid g2
            clear hb hp hr P1 g1 g2
            go_wp2_with fail
            refine (utf_calls _ l w4 HV4.out HS.out).mono ?_
            rintro e w5 ⟨rfl, hb⟩
            have HB5 := hid (HB4.out.trans (hb.mono HB4.out.size))
            have HT5 := hid (HT4.out.below hb)
            have HP5 := hid (HP4.out.below hb)
            have HV5 := hid (HV4.out.below hb)
            have HM5 := hid (HM4.out.below hb)
            rw [hu]
            clear hb hu
            go_wp2_with fail
            refine (pairs_calls _ _ l l w5 HM5.out HV5.out (by have := HG2.out; omega)).mono ?_
            rintro e w6 ⟨rfl, hb⟩
            have HB6 := hid (HB5.out.trans (hb.mono HB5.out.size))
            have HT6 := hid (HT5.out.below hb)
            have HP6 := hid (HP5.out.below hb)
            have HV6 := hid (HV5.out.below hb)
            rw [beq_self_eq_true]
            clear hb
            go_wp2_with fail
            refine (parse_calls s w6 HT6.out).mono ?_
            rintro e w7 hp
            rcases Nat.lt_or_ge 4000 s.size with z1 | z1
            · obtain ⟨a7, c7, rfl, hb⟩ := pparse_long (s := s.data.toList) hp (by rw [HN.out]; exact z1)
              have HB7 := hid (HB6.out.trans (hb.mono HB6.out.size))
              have HT7 := hid (HT6.out.below hb)
              have HP7 := hid (HP6.out.below hb)
              clear hb hp
              go_wp2_with fail
              refine (HF.out w7 HT7.out).mono ?_
              rintro e w8 ⟨rfl, hb⟩
              have HB8 := hid (HB7.out.trans (hb.mono HB7.out.size))
              have HT8 := hid (HT7.out.below hb)
              clear hb
              go_wp2_with fail
              go_ret
              exact ⟨rfl, HB8.out⟩
            · have zl : s.data.toList.length ≤ 4000 := by rw [HN.out]; exact z1
              rcases Nat.lt_or_ge 256 (cntR s.data.toList) with z2 | z2
              · obtain ⟨a7, c7, rfl, hb⟩ := pparse_many (s := s.data.toList) hp zl z2
                have HB7 := hid (HB6.out.trans (hb.mono HB6.out.size))
                have HT7 := hid (HT6.out.below hb)
                have HP7 := hid (HP6.out.below hb)
                clear hb hp
                go_wp2_with fail
                refine (HF.out w7 HT7.out).mono ?_
                rintro e w8 ⟨rfl, hb⟩
                have HB8 := hid (HB7.out.trans (hb.mono HB7.out.size))
                have HT8 := hid (HT7.out.below hb)
                clear hb
                go_wp2_with fail
                go_ret
                exact ⟨rfl, HB8.out⟩
              · obtain ⟨a7, c7, rfl, hr, hb⟩ := pparse_ok (s := s.data.toList) hp zl z2
                have HB7 := hid (HB6.out.trans (hb.mono HB6.out.size))
                have HT7 := hid (HT6.out.below hb)
                have HP7 := hid (HP6.out.below hb)
                have HA7 := hid hr
                have HZ := hid (fun p (hp : p ∈ prsR s.data.toList) => prs_size p hp)
                have HLn := hid (prsR_len s.data.toList)
                have HC := hid z2
                have HZl := hid zl
                have HU := hid (utf_prs s.data.toList)
                have HPb := hid (And.intro (prs_print (prsR s.data.toList) (prs_U8 s.data.toList)) (cnt_print (prsR s.data.toList)))
                clear hb hp hr z1 zl
                generalize prsR s.data.toList = A at *
                generalize cntR s.data.toList = cn at *
                have HZz : Hid (∀ p ∈ A, p.1.length ≤ 1100000 ∧ p.2.length ≤ 1100000) := hid (fun p hp => by have := HZ.out p hp; have := HZl.out; omega)
                go_wp2_with fail
                refine (print_calls _ A w7 HP7.out HA7.out (by have := HLn.out; have := HC.out; omega) HZz.out).mono ?_
                rintro e w8 ⟨rfl, hb⟩
                have HB8 := hid (HB7.out.trans (hb.mono HB7.out.size))
                have HT8 := hid (HT7.out.below hb)
                have HP8 := hid (HP7.out.below hb)
                have HA8 := hid (HA7.out.below hb)
                clear hb z2
                go_wp2_with fail
                refine (parse_calls (strOf (printR A)) w8 HT8.out).mono ?_
                rintro e w9 hp
                rcases Nat.lt_or_ge 4000 (printR A).length with y1 | y1
                · obtain ⟨a8, c8, rfl, hb⟩ := pparse_long (s := printR A) hp y1
                  have HB9 := hid (HB8.out.trans (hb.mono HB8.out.size))
                  have HT9 := hid (HT8.out.below hb)
                  have HP9 := hid (HP8.out.below hb)
                  have HA9 := hid (HA8.out.below hb)
                  have y2 : (4000 : Int) < ((strOf (printR A)).size : Int) := by show (4000 : Int) < (((printR A).length : Nat) : Int); omega
                  clear hb hp y1
                  go_wp2_with fail
                  refine (HF.out w9 HT9.out).mono ?_
                  rintro e w10 ⟨rfl, hb⟩
                  have HB10 := hid (HB9.out.trans (hb.mono HB9.out.size))
                  have HT10 := hid (HT9.out.below hb)
                  have HA10 := hid (HA9.out.below hb)
                  clear hb
                  go_wp2_with fail
                  refine (utf_calls _ A w10 HA10.out HZz.out).mono ?_
                  rintro e w11 ⟨rfl, hb⟩
                  have HB11 := hid (HB10.out.trans (hb.mono HB10.out.size))
                  rw [HU.out]
                  clear hb
                  go_wp2_with fail
                  go_ret
                  exact ⟨rfl, HB11.out⟩
                · obtain ⟨a8, c8, rfl, hr, hb⟩ := pparse_ok (s := printR A) hp y1 (by rw [HPb.out.2]; have := HLn.out; have := HC.out; omega)
                  have HB9 := hid (HB8.out.trans (hb.mono HB8.out.size))
                  have HT9 := hid (HT8.out.below hb)
                  have HP9 := hid (HP8.out.below hb)
                  have HA9 := hid (HA8.out.below hb)
                  rw [HPb.out.1] at hr
                  have HM9 := hid hr
                  have y2 : ((strOf (printR A)).size : Int) ≤ 4000 := by show (((printR A).length : Nat) : Int) ≤ 4000; omega
                  clear hb hp y1 hr
                  go_wp2_with fail
                  refine (HF.out w9 HT9.out).mono ?_
                  rintro e w10 ⟨rfl, hb⟩
                  have HB10 := hid (HB9.out.trans (hb.mono HB9.out.size))
                  have HT10 := hid (HT9.out.below hb)
                  have HA10 := hid (HA9.out.below hb)
                  have HM10 := hid (HM9.out.below hb)
                  clear hb
                  go_wp2_with fail
                  refine (utf_calls _ A w10 HA10.out HZz.out).mono ?_
                  rintro e w11 ⟨rfl, hb⟩
                  have HB11 := hid (HB10.out.trans (hb.mono HB10.out.size))
                  have HA11 := hid (HA10.out.below hb)
                  have HM11 := hid (HM10.out.below hb)
                  rw [HU.out]
                  clear hb
                  go_wp2_with fail
                  refine (pairs_calls _ _ A A w11 HM11.out HA11.out (by have := HLn.out; have := HC.out; omega)).mono ?_
                  rintro e w12 ⟨rfl, hb⟩
                  have HB12 := hid (HB11.out.trans (hb.mono HB11.out.size))
                  rw [beq_self_eq_true]
                  clear hb
                  go_wp2_with fail
                  go_ret
                  exact ⟨rfl, HB12.out⟩
end Go.Proofs.YtilamfbpbgcnpaaDoor
