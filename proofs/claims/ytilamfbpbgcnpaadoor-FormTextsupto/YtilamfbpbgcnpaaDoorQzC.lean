/- The document's ParseForm. -/
import Derived.Test.YtilamfbpbgcnpaaDoorBuD
import Derived.Test.YtilamfbpbgcnpaaDoorQzA
import Derived.Test.YtilamfbpbgcnpaaDoorBuA
namespace Go.Proofs.YtilamfbpbgcnpaaDoor
open Go.RowKit Go.Shelf
set_option linter.unusedVariables false
set_option maxRecDepth 20000
set_option linter.unusedSimpArgs false
theorem row_atQ {α : Type} {f : α → Value} {w : World} {a : Option Addr} {n cap k : Nat} {l : List α} (h : Row f w (.slice a n cap) l) (hk : k < l.length) : ∃ b off, a = some ⟨b, off, none⟩ ∧ b < w.heap.size ∧ w.cell? ⟨b, off + k, none⟩ = some (f l[k]) := by
  obtain ⟨a', cap', he, _, _, h3⟩ := h
  injection he with e1 e2 e3
  obtain ⟨b, off, e, hlt, hc⟩ := h3 (by intro h; simp [h] at hk)
  exact ⟨b, off, e1.trans e, hlt, hc k hk⟩
theorem cut_noneQ {p : List UInt8} (h : ∀ x ∈ p, x ≠ 61) : Lib.cut p [61] = (p, [], false) := by
  have hi : Lib.indexByte p 61 < 0 := by
    rcases Int.lt_or_le (Lib.indexByte p 61) 0 with hi | hi
    · exact hi
    · obtain ⟨k, hk⟩ : ∃ k : Nat, Lib.indexByte p 61 = k := ⟨(Lib.indexByte p 61).toNat, by omega⟩
      exact absurd rfl (h 61 (List.mem_of_getElem? (Lib.indexByte_some hk).1))
  unfold Lib.cut
  rw [Lib.index_one, if_neg (by omega)]
theorem cut_atQ {a b : List UInt8} (h : ∀ x ∈ a, x ≠ 61) : Lib.cut (a ++ 61 :: b) [61] = (a, b, true) := by
  have hi : Lib.indexByte (a ++ 61 :: b) 61 = (a.length : Int) := by
    have hat : (a ++ 61 :: b)[a.length]? = some 61 := by simp
    rcases Int.lt_or_le (Lib.indexByte (a ++ 61 :: b) 61) 0 with hi | hi
    · have he : Lib.indexByte (a ++ 61 :: b) 61 = -1 := by have := Lib.indexByte_ge (a ++ 61 :: b) 61; omega
      exact absurd hat (Lib.indexByte_none he _)
    · obtain ⟨k, hk⟩ : ∃ k : Nat, Lib.indexByte (a ++ 61 :: b) 61 = k := ⟨(Lib.indexByte (a ++ 61 :: b) 61).toNat, by omega⟩
      obtain ⟨h1, h2⟩ := Lib.indexByte_some hk
      rw [hk]
      rcases Nat.lt_trichotomy k a.length with hlt | rfl | hgt
      · rw [List.getElem?_append_left hlt] at h1
        exact absurd rfl (h 61 (List.mem_of_getElem? h1))
      · rfl
      · exact absurd hat (h2 _ hgt)
  unfold Lib.cut
  rw [Lib.index_one, hi, if_pos (by omega)]
  simp
theorem split_first (c : UInt8) : ∀ p : List UInt8, (∀ x ∈ p, x ≠ c) ∨ ∃ a b, p = a ++ c :: b ∧ ∀ x ∈ a, x ≠ c
  | [] => .inl (by simp)
  | y :: r => by
    by_cases hy : y = c
    · exact .inr ⟨[], r, by rw [hy]; rfl, by simp⟩
    · rcases split_first c r with h | ⟨a, b, rfl, h⟩
      · exact .inl fun x hx => by rcases List.mem_cons.1 hx with rfl | hx; exact hy; exact h x hx
      · exact .inr ⟨y :: a, b, rfl, fun x hx => by rcases List.mem_cons.1 hx with rfl | hx; exact hy; exact h x hx⟩
theorem splitG_neQ (c : UInt8) : ∀ (l acc : List UInt8), splitG c acc l ≠ []
  | [], acc => by rw [splitG_nil]; simp
  | y :: r, acc => by
    by_cases hy : y = c
    · subst hy; rw [splitG_sep]; simp
    · rw [splitG_other hy]; exact splitG_neQ c r _
/-- What a piece's two halves are. -/
theorem halves (p : List UInt8) : (splitR 61 p = [p] ∧ pairR p = (plainR p, plainR [])) ∨ ∃ a b t, splitR 61 p = a :: t ∧ 1 ≤ t.length ∧ (strOf p).extract (a.length + 1) p.length = strOf b ∧ a.length + 1 ≤ p.length ∧ a.length ≤ p.length ∧ b.length ≤ p.length ∧ pairR p = (plainR a, plainR b) := by
  rcases split_first 61 p with h | ⟨a, b, rfl, h⟩
  · refine .inl ⟨?_, ?_⟩
    · have := splitG_free (sep := 61) p [] h
      exact this
    · unfold pairR; rw [cut_noneQ h]
  · refine .inr ⟨a, b, splitR 61 b, ?_, ?_, ?_, by simp, by simp, by simp; omega, ?_⟩
    · unfold splitR
      rw [splitG_app', splitG_free a [] h]
      rfl
    · have := splitG_neQ 61 b []
      unfold splitR
      cases hx : splitG 61 [] b with
      | nil => exact absurd hx this
      | cons x r => simp
    · have := cut_mid (strOf (a ++ 61 :: b)) (a.length + 1) (a ++ 61 :: b).length (by exact Nat.le_refl _)
      rw [this]
      congr 1
      have e : (strOf (a ++ 61 :: b)).data.toList = a ++ 61 :: b := rfl
      rw [e]
      have e2 : (a ++ 61 :: b).drop (a.length + 1) = b := by
        rw [show a ++ 61 :: b = (a ++ [61]) ++ b by simp, show a.length + 1 = (a ++ [61]).length by simp, List.drop_left]
      rw [e2, List.take_of_length_le (by simp; omega)]
    · unfold pairR; rw [cut_atQ h]
theorem POwn.belowQ {W W1 : World} {base : Nat} {v : Value} {l : List Pr} (h : POwn W base v l) (hb : Below W.heap.size W W1) : POwn W1 base v l := by
  refine ⟨h.1, ?_⟩
  rcases h.2 with h' | ⟨g, cap, cur, rfl, hbg, hg, hr⟩
  · exact .inl h'
  · have hlt : g < W.heap.size := by
      rcases Nat.lt_or_ge g W.heap.size with h' | h'
      · exact h'
      · rw [Array.getElem?_eq_none h'] at hg; cases hg
    exact .inr ⟨g, cap, cur, rfl, hbg, (hb.block g hlt).trans hg, hr⟩
theorem some1_le (l : List (List UInt8)) : (some1 l).length ≤ l.length := List.length_filter_le _ _
theorem splitG_lenQ (c : UInt8) : ∀ (l acc : List UInt8), (splitG c acc l).length ≤ l.length + 1
  | [], acc => by rw [splitG_nil]; simp
  | y :: r, acc => by
    by_cases hy : y = c
    · subst hy; rw [splitG_sep]; have := splitG_lenQ y r []; simp; omega
    · rw [splitG_other hy]; have := splitG_lenQ c r (acc ++ [y]); simp; omega
set_option maxRecDepth 20000 in
set_option maxHeartbeats 8000000 in
theorem parseForm_calls (s : ByteArray) (w : World) :
    Calls Tryd.prog 10 #[.string s] w fun e w' => ParsePost s.data.toList w e w' := by
  have hn := bytes_num s
  have HRL : Hid (4000 < s.size → parseR s.data.toList = ([], 3)) := hid fun h => parse_long (by rw [hn]; exact h)
  have HRM : Hid (s.size ≤ 4000 → 256 < (curP (splitR 38 s.data.toList)).length → parseR s.data.toList = ([], 11)) := hid fun h h2 => parse_many (by rw [hn]; exact h) (by rw [curP_len] at h2; exact h2)
  have HRO : Hid (s.size ≤ 4000 → (curP (splitR 38 s.data.toList)).length ≤ 256 → parseR s.data.toList = (curP (splitR 38 s.data.toList), 0)) := hid fun h h2 => parse_ok (by rw [hn]; exact h) (by rw [curP_len] at h2; exact h2)
  have HMem := hid (fun x (h : x ∈ splitR 38 s.data.toList) => show x.length ≤ s.size by have := splitG_mem 38 s.data.toList [] x h; simp at this; exact this)
  have HLen := hid (show (splitR 38 s.data.toList).length ≤ s.size + 1 by have := splitG_lenQ 38 s.data.toList []; rw [hn] at this; exact this)
  clear hn
  unfold ParsePost
  by_cases hl : 4000 < s.size
  · have h1 : (4000 : Int) < (s.size : Int) := by omega
    have HP := hid (HRL.out hl)
    clear HRL HRM HRO
    go_enter Tryd.func10, Tryd.ntmps10
    go_wp2_with fail
    go_ret2
    exact ⟨_, by rw [HP.out]; rfl, by rw [HP.out]; exact PRow.nil _, Below.refl _ _⟩
  · have h1 : ¬ (4000 : Int) < (s.size : Int) := by omega
    have HM := hid (HRM.out (by omega))
    have HO0 := hid (HRO.out (by omega))
    have HS : Hid (s.size ≤ 4000) := hid (by omega)
    have HSp := hid (split_callsIp s 38 w (by omega))
    clear HRL HRM HRO hl
    go_enter Tryd.func10, Tryd.ntmps10
    go_wp2_with fail
    refine HSp.out.mono ?_
    rintro e w1 ⟨⟨v, rfl, hv⟩, hb1⟩
    have HB1 := hid hb1
    have HV := hid hv
    have HE : Hid (∃ ps, splitR 38 s.data.toList = ps) := hid ⟨_, rfl⟩
    obtain ⟨ps, hps⟩ := HE.out
    rw [hps] at HM HO0 HMem HLen HV
    clear hps hb1 hv HSp
    have hv := HV.out
    obtain ⟨a, cap, rfl, hc1, hc2, _⟩ := hv
    unfold maxLen at hc2
    go_wp2_with fail
    go_loopw [5, 6, 7, 8] (fun o i q z wr => ∃ k : Nat, k ≤ ps.length ∧ i = .int .i64 k ∧ POwn wr w1.heap.size o (curP (ps.take k)) ∧ Below w1.heap.size w1 wr) (fun _ i _ _ _ => ps.length - (intOf i).toNat)
    case atStart => exact ⟨0, Nat.zero_le _, rfl, POwn.nil _ _, Below.refl _ _⟩
    case round =>
      obtain ⟨k, hk, rfl, ho, hb⟩ := hrel
      have HO := hid ho
      have HB := hid hb
      clear ho hb
      have k0 : (0 : Int) ≤ (k : Int) := by omega
      by_cases hlt : k < ps.length
      · obtain ⟨b, off, rfl, hbl, hc⟩ := row_atQ HV.out hlt
        have HCk := hid (fun (W : World) (hw : Below w1.heap.size w1 W) => show W.cell? ⟨b, off + k, none⟩ = some (.string (strOf ps[k])) from (hw.cell (p := ⟨b, off + k, none⟩) hbl).trans hc)
        have hck := HCk.out _ HB.out
        have HT : Hid (ps.take (k + 1) = ps.take k ++ [ps[k]]) := hid (List.take_succ_eq_append_getElem hlt)
        have hxm := HMem.out ps[k] (List.getElem_mem hlt)
        have HCL : Hid ((curP (ps.take k)).length ≤ 4001) := hid (by
          have h1 := some1_le (ps.take k)
          have h2 := HLen.out
          have h3 := HS.out
          rw [curP_len]
          rw [List.length_take] at h1
          omega)
        have k1 : (k : Int) < (ps.length : Int) := by omega
        have hn9 : (ps.length : Int) ≤ 4001 := by have := HLen.out; have := HS.out; omega
        have hpl : ps[k].length ≤ 4000 := by have := HS.out; omega
        clear hc hxm
        generalize ps[k]'hlt = x at *
        by_cases hne : x = []
        · subst hne
          have e : strOf [] = ⟨#[]⟩ := rfl
          rw [e] at hck
          go_wp2_with fail
          go_roundw
          case rel => exact ⟨k + 1, by omega, by go_num, by rw [HT.out]; unfold curP; rw [some1_snoc, if_pos rfl]; exact HO.out, HB.out⟩
          case measure => simp [intOf]; omega
        · have e : (strOf x).toList.isEmpty = false := by
            rw [strOf_list]
            cases x with
            | nil => exact absurd rfl hne
            | cons _ _ => rfl
          have HCur : Hid (curP (ps.take (k + 1)) = curP (ps.take k) ++ [pairR x]) := hid (by rw [HT.out]; unfold curP; rw [some1_snoc, if_neg hne, List.map_append]; rfl)
          have HX := hid (split_callsIp (strOf x) 61 wr (by show x.length ≤ _; omega))
          change Hid (Calls _ _ _ wr fun e w' => (∃ v, e = .returned v ∧ SRowIp w' v (splitR 61 x)) ∧ _) at HX
          have hxz : (strOf x).size = x.length := rfl
          rcases halves x with ⟨hq, hpr⟩ | ⟨xa, xb, t, hq, ht, hex, hle, hla, hlb, hpr⟩
          · have HF1 := hid (fun W => formText_calls (strOf x) W (by show x.length ≤ _; omega))
            have HF2 := hid (fun W => formText_calls ⟨#[]⟩ W (by decide))
            change Hid (∀ W, Calls _ _ _ W fun e w' => e = .returned (.string (strOf (plainR x))) ∧ _) at HF1
            change Hid (∀ W, Calls _ _ _ W fun e w' => e = .returned (.string (strOf (plainR []))) ∧ _) at HF2
            rw [hq] at HX
            rw [hpr] at HCur
            generalize plainR x = X1 at *
            generalize plainR [] = X2 at *
            clear hq hpr hne HT
            go_wp2_with fail
            refine HX.out.mono ?_
            rintro e2 w2 ⟨⟨q, rfl, hq⟩, hb2⟩
            have hsz2 := hb2.size
            have HB2 := hid (HB.out.trans (hb2.mono HB.out.size))
            have HO2 := hid (HO.out.belowQ hb2)
            have HQ := hid hq
            obtain ⟨qa, qc, rfl, _⟩ := hq
            obtain ⟨qb, qo, rfl, hqb, hqc⟩ := row_atQ HQ.out (k := 0) (by simp)
            simp only [List.length_cons, List.length_nil, Nat.reduceAdd, List.getElem_cons_zero, Nat.add_zero] at hqc ⊢
            clear hb2
            go_wp2_with fail
            refine (HF1.out w2).mono ?_
            rintro e3 w3 ⟨rfl, hb3⟩
            have HB3 := hid (HB2.out.trans (hb3.mono HB2.out.size))
            have HO3 := hid (HO2.out.belowQ hb3)
            clear hb3
            go_wp2_with fail
            refine (HF2.out w3).mono ?_
            rintro e4 w4 ⟨rfl, hb4⟩
            have HB4 := hid (HB3.out.trans (hb4.mono HB3.out.size))
            have HO4 := hid (HO3.out.belowQ hb4)
            clear hb4
            obtain ⟨v2, w5, hr, ho5, hg5⟩ := pappend_run HO4.out (X1, X2) (by have := HCL.out; omega) HB4.out.size
            have hb5 : Below w1.heap.size w1 w5 := (HB4.out.alloc HB4.out.size (.cells #[fq X1, fq X2] 36)).grown hg5 (by have := HB4.out.size; simp; omega) (fun j hj => (World.ownsRow.lt HO4.out j hj).1)
            have HO5 := hid ho5
            have HB5 := hid hb5
            clear ho5 hb5 hg5
            go_wp2_with (at_builtin; go_must (refine wpList_append_run hr rfl _ _ rfl rfl rfl rfl ?_))
            go_roundw
            case rel => exact ⟨k + 1, by omega, by go_num, by rw [HCur.out]; exact HO5.out, HB5.out⟩
            case measure => simp [intOf]; omega
          · have HF1 := hid (fun W => formText_calls (strOf xa) W (by show xa.length ≤ _; omega))
            have HF2 := hid (fun W => formText_calls (strOf xb) W (by show xb.length ≤ _; omega))
            change Hid (∀ W, Calls _ _ _ W fun e w' => e = .returned (.string (strOf (plainR xa))) ∧ _) at HF1
            change Hid (∀ W, Calls _ _ _ W fun e w' => e = .returned (.string (strOf (plainR xb))) ∧ _) at HF2
            rw [hq] at HX
            rw [hpr] at HCur
            generalize plainR xa = X1 at *
            generalize plainR xb = X2 at *
            have t1 : (1 : Int) < ((t.length + 1 : Nat) : Int) := by omega
            have l1 : ((xa.length : Int) + 1) ≤ (x.length : Int) := by omega
            have hxaz : (strOf xa).size = xa.length := rfl
            clear hq hpr hne HT
            go_wp2_with fail
            refine HX.out.mono ?_
            rintro e2 w2 ⟨⟨q, rfl, hq⟩, hb2⟩
            have hsz2 := hb2.size
            have HB2 := hid (HB.out.trans (hb2.mono HB.out.size))
            have HO2 := hid (HO.out.belowQ hb2)
            have HQ := hid hq
            have hck2 := HCk.out _ HB2.out
            obtain ⟨qa, qc, rfl, _, hqm, _⟩ := hq
            unfold maxLen at hqm
            obtain ⟨qb, qo, rfl, hqb, hqc⟩ := row_atQ HQ.out (k := 0) (by simp)
            simp only [List.length_cons, List.getElem_cons_zero, Nat.add_zero] at hqc ⊢
            clear hb2
            go_wp2_with fail
            go_region
            all_goals
              clear HQ hck hck2
              try rw [hxz] at *
              go_wp2_with fail
              refine (HF1.out _).mono ?_
              rintro e3 w3 ⟨rfl, hb3⟩
              have HB3 := hid (HB2.out.drew.trans (hb3.mono HB2.out.size))
              have HO3 := hid (HO2.out.belowD hb3)
              clear hb3
              go_wp2_with fail
              refine (HF2.out w3).mono ?_
              rintro e4 w4 ⟨rfl, hb4⟩
              have HB4 := hid (HB3.out.trans (hb4.mono HB3.out.size))
              have HO4 := hid (HO3.out.belowQ hb4)
              clear hb4
              obtain ⟨v2, w5, hr, ho5, hg5⟩ := pappend_run HO4.out (X1, X2) (by have := HCL.out; omega) HB4.out.size
              have hb5 : Below w1.heap.size w1 w5 := (HB4.out.alloc HB4.out.size (.cells #[fq X1, fq X2] 36)).grown hg5 (by have := HB4.out.size; simp; omega) (fun j hj => (World.ownsRow.lt HO4.out j hj).1)
              have HO5 := hid ho5
              have HB5 := hid hb5
              clear ho5 hb5 hg5
              go_wp2_with (at_builtin; go_must (refine wpList_append_run hr rfl _ _ rfl rfl rfl rfl ?_))
              go_roundw
              case rel => exact ⟨k + 1, by omega, by go_num, by rw [HCur.out]; exact HO5.out, HB5.out⟩
              case measure => simp [intOf]; omega
      · have hkl : k = ps.length := by omega
        subst hkl
        have ho := HO.out
        rw [List.take_length] at ho
        have HO1 := hid ho
        have kk : ¬ (ps.length : Int) < (ps.length : Int) := by omega
        have HB9 := hid (below_trans HB1.out HB.out)
        obtain ⟨oa, oc, rfl, _⟩ := ho.row
        clear ho
        by_cases hm : 256 < (curP ps).length
        · have HP := hid (HM.out hm)
          have m1 : (256 : Int) < ((curP ps).length : Int) := by omega
          clear hm
          go_wp2_with fail
          go_ret2
          exact ⟨_, by rw [HP.out]; rfl, by rw [HP.out]; exact PRow.nil _, HB9.out⟩
        · have HP := hid (HO0.out (by omega))
          have m1 : ¬ (256 : Int) < ((curP ps).length : Int) := by omega
          clear hm
          go_wp2_with fail
          go_ret2
          exact ⟨_, by rw [HP.out]; rfl, by rw [HP.out]; exact HO1.out.row, HB9.out⟩
end Go.Proofs.YtilamfbpbgcnpaaDoor
