/- FormJoins: two queries with & between. -/
import Derived.Test.YtilamfbpbgcnpaaDoorQyE
namespace Go.Proofs.YtilamfbpbgcnpaaDoor
open Go.RowKit Go.Shelf
set_option linter.unusedVariables false
set_option maxRecDepth 20000
set_option linter.unusedSimpArgs false
theorem splitG_app' (c : UInt8) : ∀ (a acc b : List UInt8), splitG c acc (a ++ c :: b) = splitG c acc a ++ splitG c [] b
  | [], acc, b => by rw [List.nil_append, splitG_sep, splitG_nil]; rfl
  | x :: r, acc, b => by
    by_cases h : x = c
    · subst h; rw [List.cons_append, splitG_sep, splitG_sep, splitG_app' x r [] b]; rfl
    · rw [List.cons_append, splitG_other h, splitG_other h, splitG_app' c r _ b]
/-- How many pieces are something; their pairs. -/
def cntR (s : List UInt8) : Nat := (some1 (splitR 38 s)).length
def prsR (s : List UInt8) : List Pr := curP (splitR 38 s)
theorem prsR_len (s : List UInt8) : (prsR s).length = cntR s := curP_len _
theorem parse_long {s : List UInt8} (h : 4000 < s.length) : parseR s = ([], 3) := by unfold parseR; rw [if_pos h]
theorem parse_many {s : List UInt8} (h : s.length ≤ 4000) (h2 : 256 < cntR s) : parseR s = ([], 11) := by unfold parseR; rw [if_neg (by omega)]; exact if_pos h2
theorem parse_ok {s : List UInt8} (h : s.length ≤ 4000) (h2 : cntR s ≤ 256) : parseR s = (prsR s, 0) := by unfold parseR; rw [if_neg (by omega)]; exact if_neg (by unfold cntR at h2; omega)
theorem some1_app (a b : List (List UInt8)) : some1 (a ++ b) = some1 a ++ some1 b := List.filter_append a b
theorem cnt_app (s t : List UInt8) : cntR (s ++ 38 :: t) = cntR s + cntR t := by
  unfold cntR splitR; rw [splitG_app', some1_app, List.length_append]
theorem prs_app (s t : List UInt8) : prsR (s ++ 38 :: t) = prsR s ++ prsR t := by
  unfold prsR curP splitR; rw [splitG_app', some1_app, List.map_append]
/-- What Parse answers, in three ways. -/
theorem pparse_many {s : List UInt8} {w w' : World} {e : Ending} (h : ParsePost s w e w') (h1 : s.length ≤ 4000) (h2 : 256 < cntR s) : ∃ a c, e = .returned (.tuple #[.slice a 0 c, .int .i64 11]) ∧ Below w.heap.size w w' := by
  obtain ⟨v, rfl, hv, hb⟩ := h
  rw [parse_many h1 h2] at hv ⊢
  obtain ⟨a, c, rfl, _⟩ := hv
  exact ⟨a, c, rfl, hb⟩
theorem pparse_ok {s : List UInt8} {w w' : World} {e : Ending} (h : ParsePost s w e w') (h1 : s.length ≤ 4000) (h2 : cntR s ≤ 256) : ∃ a c, e = .returned (.tuple #[.slice a (cntR s) c, .int .i64 0]) ∧ PRow w' (.slice a (cntR s) c) (prsR s) ∧ Below w.heap.size w w' := by
  obtain ⟨v, rfl, hv, hb⟩ := h
  rw [parse_ok h1 h2] at hv ⊢
  have hv' := hv
  obtain ⟨a, c, rfl, _⟩ := hv
  rw [← prsR_len]
  exact ⟨a, c, rfl, hv', hb⟩
theorem pparse_any {s : List UInt8} {w w' : World} {e : Ending} (h : ParsePost s w e w') : ∃ a n c k, e = .returned (.tuple #[.slice a n c, .int .i64 k]) ∧ Below w.heap.size w w' := by
  obtain ⟨v, rfl, hv, hb⟩ := h
  obtain ⟨a, c, rfl, _⟩ := hv
  exact ⟨a, _, c, _, rfl, hb⟩
theorem str_mid (s t : ByteArray) : s ++ ⟨#[38]⟩ ++ t = strOf (s.data.toList ++ 38 :: t.data.toList) := by
  have h : ∀ a b : ByteArray, a.data = b.data → a = b := fun a b h => by cases a; cases b; cases h; rfl
  refine h _ _ ?_
  rw [ByteArray.data_append, ByteArray.data_append]
  apply Array.ext'
  simp [strOf]
set_option maxHeartbeats 2000000 in
theorem formJoins_walk (s t : ByteArray) (w : World) (T : MaxL w) (h0 : s.size ≤ maxLen) (h00 : t.size ≤ maxLen) :
    Calls Tryd.prog 5 #[.string s, .string t] w fun e w' => e = .returned (.bool true) ∧ Below w.heap.size w w' := by
  have HT := hid T
  have H1 := hid (qfirst_calls w T)
  clear T h0 h00
  go_enter Tryd.func5, Tryd.ntmps5
  go_wp2_with fail
  refine H1.out.mono ?_
  rintro e w1 ⟨rfl, hb1⟩
  have HB1 := hid hb1
  have HT1 := hid (HT.out.below hb1)
  clear hb1 H1
  by_cases hs : 1500 < s.size ∨ 1500 < t.size
  · have HF := hid (qfirst_calls w1 HT1.out)
    rcases Nat.lt_or_ge 1500 s.size with h1 | h1
    · have q1 : (1500 : Int) < (s.size : Int) := by omega
      clear hs h1
      go_wp2_with fail
      refine HF.out.mono ?_
      rintro e w2 ⟨rfl, hb2⟩
      have HB2 := hid (HB1.out.trans (hb2.mono HB1.out.size))
      clear hb2
      go_wp2_with fail
      go_ret
      exact ⟨rfl, HB2.out⟩
    · have q1 : (s.size : Int) ≤ (1500 : Int) := by omega
      have q2 : (1500 : Int) < (t.size : Int) := by omega
      clear hs h1
      go_wp2_with fail
      refine HF.out.mono ?_
      rintro e w2 ⟨rfl, hb2⟩
      have HB2 := hid (HB1.out.trans (hb2.mono HB1.out.size))
      clear hb2
      go_wp2_with fail
      go_ret
      exact ⟨rfl, HB2.out⟩
  · have q1 : (s.size : Int) ≤ (1500 : Int) := by omega
    have q2 : (t.size : Int) ≤ (1500 : Int) := by omega
    have hn1 := bytes_num s
    have hn2 := bytes_num t
    have hl1 : s.data.toList.length ≤ 4000 := by omega
    have hl2 : t.data.toList.length ≤ 4000 := by omega
    have hl3 : (s.data.toList ++ 38 :: t.data.toList).length ≤ 4000 := by rw [List.length_append, List.length_cons]; omega
    have hc := cnt_app s.data.toList t.data.toList
    have hp := prs_app s.data.toList t.data.toList
    have P1 := hid (fun w (T : MaxL w) => parse_calls s w T)
    have P2 := hid (fun w (T : MaxL w) => parse_calls t w T)
    have P3 := hid (fun w (T : MaxL w) => parse_calls (strOf (s.data.toList ++ 38 :: t.data.toList)) w T)
    have hm := str_mid s t
    clear hs hn1 hn2
    go_wp2_with fail
    rcases Nat.lt_or_ge 256 (cntR s.data.toList) with g1 | g1
    · have hc3 : 256 < cntR (s.data.toList ++ 38 :: t.data.toList) := by omega
      refine (P1.out w1 HT1.out).mono ?_
      rintro e w2 h2
      obtain ⟨a1, c1, rfl, hb⟩ := pparse_many h2 hl1 (by omega)
      have HB2 := hid (HB1.out.trans (hb.mono HB1.out.size))
      have HT2 := hid (HT1.out.below hb)
      clear hb h2
      go_wp2_with fail
      refine (P2.out w2 HT2.out).mono ?_
      rintro e w3 h3
      obtain ⟨a2, n2, c2, e2, rfl, hb⟩ := pparse_any h3
      have HB3 := hid (HB2.out.trans (hb.mono HB2.out.size))
      have HT3 := hid (HT2.out.below hb)
      clear hb h3
      go_wp2_with fail
      refine (P3.out w3 HT3.out).mono ?_
      rintro e w4 h4
      obtain ⟨a3, c3, rfl, hb⟩ := pparse_many (s := s.data.toList ++ 38 :: t.data.toList) h4 hl3 (by omega)
      have HB4 := hid (HB3.out.trans (hb.mono HB3.out.size))
      have HT4 := hid (HT3.out.below hb)
      clear hb h4
      go_wp2_with fail
      refine (qfirst_calls w4 HT4.out).mono ?_
      rintro e w5 ⟨rfl, hb⟩
      have HB5 := hid (HB4.out.trans (hb.mono HB4.out.size))
      have HT5 := hid (HT4.out.below hb)
      clear hb
      go_wp2_with fail
      go_ret
      exact ⟨rfl, HB5.out⟩
    · rcases Nat.lt_or_ge 256 (cntR t.data.toList) with g2 | g2
      · have hc3 : 256 < cntR (s.data.toList ++ 38 :: t.data.toList) := by omega
        refine (P1.out w1 HT1.out).mono ?_
        rintro e w2 h2
        obtain ⟨a1, c1, rfl, hr, hb⟩ := pparse_ok h2 hl1 (by omega)
        have HB2 := hid (HB1.out.trans (hb.mono HB1.out.size))
        have HT2 := hid (HT1.out.below hb)
        have HR1 := hid hr
        clear hb h2 hr
        go_wp2_with fail
        refine (P2.out w2 HT2.out).mono ?_
        rintro e w3 h3
        obtain ⟨a2, c2, rfl, hb⟩ := pparse_many h3 hl2 (by omega)
        have HB3 := hid (HB2.out.trans (hb.mono HB2.out.size))
        have HT3 := hid (HT2.out.below hb)
        clear hb h3
        go_wp2_with fail
        refine (P3.out w3 HT3.out).mono ?_
        rintro e w4 h4
        obtain ⟨a3, c3, rfl, hb⟩ := pparse_many (s := s.data.toList ++ 38 :: t.data.toList) h4 hl3 (by omega)
        have HB4 := hid (HB3.out.trans (hb.mono HB3.out.size))
        have HT4 := hid (HT3.out.below hb)
        clear hb h4
        go_wp2_with fail
        refine (qfirst_calls w4 HT4.out).mono ?_
        rintro e w5 ⟨rfl, hb⟩
        have HB5 := hid (HB4.out.trans (hb.mono HB4.out.size))
        have HT5 := hid (HT4.out.below hb)
        clear hb
        go_wp2_with fail
        go_ret
        exact ⟨rfl, HB5.out⟩
      · rcases Nat.lt_or_ge 256 (cntR s.data.toList + cntR t.data.toList) with g3 | g3
        · have hc3 : 256 < cntR (s.data.toList ++ 38 :: t.data.toList) := by omega
          refine (P1.out w1 HT1.out).mono ?_
          rintro e w2 h2
          obtain ⟨a1, c1, rfl, hr, hb⟩ := pparse_ok h2 hl1 (by omega)
          have HB2 := hid (HB1.out.trans (hb.mono HB1.out.size))
          have HT2 := hid (HT1.out.below hb)
          have HR1 := hid hr
          clear hb h2 hr
          go_wp2_with fail
          refine (P2.out w2 HT2.out).mono ?_
          rintro e w3 h3
          obtain ⟨a2, c2, rfl, hr, hb⟩ := pparse_ok h3 hl2 (by omega)
          have HB3 := hid (HB2.out.trans (hb.mono HB2.out.size))
          have HT3 := hid (HT2.out.below hb)
          have HR2 := hid hr
          clear hb h3 hr
          go_wp2_with fail
          refine (P3.out w3 HT3.out).mono ?_
          rintro e w4 h4
          obtain ⟨a3, c3, rfl, hb⟩ := pparse_many (s := s.data.toList ++ 38 :: t.data.toList) h4 hl3 (by omega)
          have HB4 := hid (HB3.out.trans (hb.mono HB3.out.size))
          have HT4 := hid (HT3.out.below hb)
          clear hb h4
          go_wp2_with fail
          refine (qfirst_calls w4 HT4.out).mono ?_
          rintro e w5 ⟨rfl, hb⟩
          have HB5 := hid (HB4.out.trans (hb.mono HB4.out.size))
          have HT5 := hid (HT4.out.below hb)
          clear hb
          go_wp2_with fail
          go_ret
          exact ⟨rfl, HB5.out⟩
        · have hc3 : cntR (s.data.toList ++ 38 :: t.data.toList) ≤ 256 := by omega
          refine (P1.out w1 HT1.out).mono ?_
          rintro e w2 h2
          obtain ⟨a1, c1, rfl, hr, hb⟩ := pparse_ok h2 hl1 (by omega)
          have HB2 := hid (HB1.out.trans (hb.mono HB1.out.size))
          have HT2 := hid (HT1.out.below hb)
          have HR1 := hid hr
          clear hb h2 hr
          go_wp2_with fail
          refine (P2.out w2 HT2.out).mono ?_
          rintro e w3 h3
          obtain ⟨a2, c2, rfl, hr, hb⟩ := pparse_ok h3 hl2 (by omega)
          have HB3 := hid (HB2.out.trans (hb.mono HB2.out.size))
          have HT3 := hid (HT2.out.below hb)
          have HR2 := hid hr
          have BA := hid hb
          clear hb h3 hr
          go_wp2_with fail
          refine (P3.out w3 HT3.out).mono ?_
          rintro e w4 h4
          obtain ⟨a3, c3, rfl, hr, hb⟩ := pparse_ok (s := s.data.toList ++ 38 :: t.data.toList) h4 hl3 (by omega)
          have HB4 := hid (HB3.out.trans (hb.mono HB3.out.size))
          have HT4 := hid (HT3.out.below hb)
          have HR3 := hid hr
          have BX2 := hid hb
          have BX1 := hid (BA.out.trans (hb.mono BA.out.size))
          clear hb h4 hr
          go_wp2_with fail
          refine (qfirst_calls w4 HT4.out).mono ?_
          rintro e w5 ⟨rfl, hb⟩
          have HB5 := hid (HB4.out.trans (hb.mono HB4.out.size))
          have HE := hid ((Below.refl w5.heap.size w5).alloc (Nat.le_refl _) (.cells #[] 36))
          have hE0 : POwn (w5.alloc (.cells #[] 36)) w5.heap.size (.slice (some ⟨w5.heap.size, 0, none⟩) 0 0) [] := World.ownsRow_lit w5 #[] 0 (Nat.le_refl _) (by unfold maxLen; omega) rfl
          have hrs := HR1.out.below (BX1.out.trans (hb.mono BX1.out.size))
          have hrt := HR2.out.below (BX2.out.trans (hb.mono BX2.out.size))
          have hrc := HR3.out.below hb
          clear hb
          obtain ⟨v1, w6, r1, o1, gr1⟩ := pappend_row hE0 (hrs.below HE.out) (by rw [prsR_len]; simp; omega) (by simp)
          have hb6 : Below w5.heap.size w5 w6 := HE.out.grown gr1 (by simp) (fun k hk => (World.ownsRow.lt hE0 k hk).1)
          obtain ⟨v2, w7, r2, o2, gr2⟩ := pappend_row o1 (hrt.below hb6) (by rw [List.length_append, prsR_len, prsR_len]; simp; omega) hb6.size
          have hb7 : Below w5.heap.size w5 w7 := hb6.grown gr2 hb6.size (fun k hk => (World.ownsRow.lt o1 k hk).1)
          have HQ := hid (pairs_calls _ v2 _ _ w7 (hrc.below hb7) o2.row (by rw [prsR_len]; omega))
          have HB7 := hid (HB5.out.trans (hb7.mono HB5.out.size))
          rw [hc, hp, List.nil_append, beq_self_eq_true] at HQ
          clear hrs hrt hrc hE0 o1 o2 gr1 gr2 hb6 hb7 hp
          have R1 := hid r1
          have R2 := hid r2
          clear r1 r2
          go_wp2_with (at_builtin; go_must (first | (refine wpList_append_on R1.out rfl _ _ rfl rfl rfl rfl ?_) | (refine wpList_append_on R2.out rfl _ _ rfl rfl rfl rfl ?_)))
          refine HQ.out.mono ?_
          rintro e w8 ⟨rfl, hb⟩
          have HB8 := hid (HB7.out.trans (hb.mono HB7.out.size))
          clear hb
          go_wp2_with fail
          go_ret
          exact ⟨rfl, HB8.out⟩
end Go.Proofs.YtilamfbpbgcnpaaDoor
