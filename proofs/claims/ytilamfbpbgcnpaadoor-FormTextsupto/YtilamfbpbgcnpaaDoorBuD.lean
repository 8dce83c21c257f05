/- Texts of one proof, laid behind one another. -/
import Derived.Test.YtilamfbpbgcnpaaDoorQyB
import Derived.Test.YtilamfbpbgcnpaaDoorQyC
/- The document's Pairs: two lists of pairs held against each other. -/
namespace Go.Proofs.YtilamfbpbgcnpaaDoor
open Go.RowKit Go.Shelf
set_option linter.unusedVariables false
set_option maxRecDepth 20000
set_option linter.unusedSimpArgs false
theorem strOf_inj {a b : List UInt8} (h : strOf a = strOf b) : a = b := by
  have := congrArg (fun s : ByteArray => s.data.toList) h
  simpa [strOf] using this
theorem pne_at {l m : List Pr} (k : Nat) (h1 : k < l.length) (h2 : k < m.length) (h : l[k] ≠ m[k]) : (l == m) = false := by
  rw [beq_eq_false_iff_ne]
  intro e; subst e; exact h rfl
theorem peq_all {l m : List Pr} (hl : l.length = m.length) (h : l.take l.length = m.take l.length) : (l == m) = true := by
  rw [List.take_length, hl, List.take_length] at h
  rw [h, beq_self_eq_true]
set_option maxHeartbeats 1000000 in
theorem pairs_calls (x y : Value) (l m : List Pr) (w : World) (hx : PRow w x l) (hy : PRow w y m) (hll : l.length ≤ 1000000) :
    Calls Tryd.prog 11 #[x, y] w fun e w' => e = .returned (.bool (l == m)) ∧ Below w.heap.size w w' := by
  obtain ⟨a, cap, rfl, h1, h2, h3⟩ := hx
  obtain ⟨a', cap', rfl, i1, i2, i3⟩ := hy
  have H3 := hid h3
  have I3 := hid i3
  clear h3 i3
  unfold maxLen at h2 i2
  by_cases hl : l.length = m.length
  · have HL := hid hl
    rw [← hl] at i1 ⊢
    clear hl
    go_enter Tryd.func11, Tryd.ntmps11
    go_wp2
    go_loopw [5] (fun i wr => ∃ k : Nat, k ≤ l.length ∧ i = .int .i64 k ∧ l.take k = m.take k ∧ Below w.heap.size w wr) (fun i _ => l.length - (intOf i).toNat)
    case atStart => exact ⟨0, Nat.zero_le _, rfl, rfl, Below.refl _ _⟩
    case round =>
      obtain ⟨k, hk, rfl, he, hb⟩ := hrel
      have HB := hid hb
      have HE := hid he
      clear he
      by_cases hlt : k < l.length
      · have hlt' : k < m.length := by have := HL.out; omega
        obtain ⟨b, off, rfl, hbl, hc⟩ := H3.out (by intro h; simp [h] at hlt)
        obtain ⟨b', off', rfl, hbl', hc'⟩ := I3.out (by intro h; simp [h] at hlt')
        have ck0 := (hb.cell (p := ⟨b, off + 2 * k, none⟩) hbl).trans (hc _ _ (flatP_at l k hlt).1)
        have ck1 := (hb.cell (p := ⟨b, off + (2 * k + 1), none⟩) hbl).trans (hc _ _ (flatP_at l k hlt).2)
        have dk0 := (hb.cell (p := ⟨b', off' + 2 * k, none⟩) hbl').trans (hc' _ _ (flatP_at m k hlt').1)
        have dk1 := (hb.cell (p := ⟨b', off' + (2 * k + 1), none⟩) hbl').trans (hc' _ _ (flatP_at m k hlt').2)
        rw [Nat.mul_comm 2 k] at ck0 ck1 dk0 dk1
        rw [← Nat.add_assoc] at ck1 dk1
        have HN := hid (pne_at k hlt hlt')
        have HT : Hid (l[k] = m[k] → l.take (k + 1) = m.take (k + 1)) := by
          intro h
          rw [List.take_succ_eq_append_getElem hlt, List.take_succ_eq_append_getElem hlt', HE.out, h]
        have k0 : (0 : Int) ≤ (k : Int) := by omega
        have k1 : (k : Int) < (l.length : Int) := by omega
        clear hc hc' hb
        generalize l[k] = c at *
        generalize m[k] = d at *
        obtain ⟨c1, c2⟩ := c
        obtain ⟨d1, d2⟩ := d
        have e : ∀ {a b : List UInt8}, ((strOf a).toList == (strOf b).toList) = (a == b) := by intro a b; rw [strOf_list, strOf_list]
        by_cases hc1 : c1 = d1
        · have n1 : ((strOf c1).toList == (strOf d1).toList) = true := by rw [e, beq_iff_eq]; exact hc1
          by_cases hc2 : c2 = d2
          · have n2 : ((strOf c2).toList == (strOf d2).toList) = true := by rw [e, beq_iff_eq]; exact hc2
            have HT2 := hid (HT.out (by rw [hc1, hc2]))
            clear e hc1 hc2
            go_wp2_with fail
            go_quiet (fail)
            have HB2 := hid (below_drewN HB.out nq)
            generalize wr.drewN nq = wx at *
            clear ck0 ck1 dk0 dk1
            go_wp2_with fail
            go_roundw
            case rel => exact ⟨k + 1, by omega, by go_num, HT2.out, HB2.out⟩
            case measure => simp [intOf]; omega
          · have n2 : ((strOf c2).toList == (strOf d2).toList) = false := by rw [e, beq_eq_false_iff_ne]; exact hc2
            have HF := hid (HN.out (fun h => hc2 (by injection h)))
            clear e hc1 hc2
            go_wp2_with fail
            go_quiet (fail)
            have HB2 := hid (below_drewN HB.out nq)
            generalize wr.drewN nq = wx at *
            clear ck0 ck1 dk0 dk1
            go_wp2_with fail
            go_ret
            exact ⟨by rw [HF.out]; rfl, HB2.out⟩
        · have n1 : ((strOf c1).toList == (strOf d1).toList) = false := by rw [e, beq_eq_false_iff_ne]; exact hc1
          have HF := hid (HN.out (fun h => hc1 (by injection h)))
          clear e hc1
          go_wp2_with fail
          go_quiet (fail)
          have HB2 := hid (below_drewN HB.out nq)
          generalize wr.drewN nq = wx at *
          clear ck0 ck1 dk0 dk1
          go_wp2_with fail
          go_ret
          exact ⟨by rw [HF.out]; rfl, HB2.out⟩
      · have hkl : k = l.length := by omega
        have HQ := hid (peq_all HL.out (by have := HE.out; rwa [hkl] at this))
        have k1 : (l.length : Int) ≤ (k : Int) := by omega
        clear hb hkl
        go_wp2_with fail
        go_ret
        exact ⟨by rw [HQ.out]; rfl, HB.out⟩
  · have hf : (l == m) = false := by
      rw [beq_eq_false_iff_ne]
      intro e
      exact hl (by rw [e])
    have hi : ((l.length : Nat) : Int) ≠ ((m.length : Nat) : Int) := by omega
    have hi2 : (((l.length : Nat) : Int) == ((m.length : Nat) : Int)) = false := by rw [beq_eq_false_iff_ne]; exact hi
    clear hl hi
    go_enter Tryd.func11, Tryd.ntmps11
    go_wp2_with fail
    go_ret
    exact ⟨by rw [hf]; rfl, Below.refl _ _⟩
end Go.Proofs.YtilamfbpbgcnpaaDoor
/- What the chapter's example fixes. -/
namespace Go.Proofs.YtilamfbpbgcnpaaDoor
open Go.RowKit Go.Shelf
set_option linter.unusedVariables false
set_option maxRecDepth 20000
set_option linter.unusedSimpArgs false
theorem PRow.lit (w : World) (l : List Pr) (cur : Array Value) (hc : cur = (flatP l).toArray) (h : l.length ≤ 1000) : PRow (w.alloc (.cells cur 36)) (.slice (some ⟨w.heap.size, 0, none⟩) l.length l.length) l := by
  subst hc
  refine ⟨_, _, rfl, Nat.le_refl _, by unfold maxLen; omega, fun _ => ⟨_, _, rfl, by simp, fun j u hj => ?_⟩⟩
  rw [World.cell?_alloc_mark]
  simpa using hj
abbrev exA : List UInt8 := [97, 61, 98, 43, 99, 38, 38, 100, 38, 101, 61, 37, 52, 49, 61]
abbrev exL : List Pr := [([97], [98, 32, 99]), ([100], []), ([101], [65, 61])]
theorem ex_parse : parseR exA = (exL, 0) := by decide +kernel
theorem qfirst_calls (w : World) (T : MaxL w) : Calls Tryd.prog 7 #[] w fun e w' => e = .returned (.bool true) ∧ Below w.heap.size w w' := by
  have HP := hid (parse_calls ⟨#[97, 61, 98, 43, 99, 38, 38, 100, 38, 101, 61, 37, 52, 49, 61]⟩ w T)
  clear T
  go_enter Tryd.func7, Tryd.ntmps7
  go_wp2_with fail
  refine HP.out.mono ?_
  rintro e w1 ⟨v, rfl, hv, hb⟩
  change PRow w1 v (parseR exA).1 at hv
  rw [show (parseR (⟨#[97, 61, 98, 43, 99, 38, 38, 100, 38, 101, 61, 37, 52, 49, 61]⟩ : ByteArray).data.toList).2 = 0 from congrArg Prod.snd ex_parse]
  rw [ex_parse] at hv
  have HV := hid hv
  have HB := hid hb
  clear hv hb HP
  go_wp2_with fail
  have HR := hid (PRow.lit w1 exL #[.string ⟨#[97]⟩, .string ⟨#[98, 32, 99]⟩, .string ⟨#[100]⟩, .string ⟨#[]⟩, .string ⟨#[101]⟩, .string ⟨#[65, 61]⟩] rfl (by decide))
  have HB1 := hid (HB.out.alloc HB.out.size (.cells #[.string ⟨#[97]⟩, .string ⟨#[98, 32, 99]⟩, .string ⟨#[100]⟩, .string ⟨#[]⟩, .string ⟨#[101]⟩, .string ⟨#[65, 61]⟩] 36))
  refine (pairs_calls v _ exL exL _ (HV.out.below ((Below.refl _ _).alloc (Nat.le_refl _) _)) HR.out (by decide)).mono ?_
  rintro e w2 ⟨rfl, hb⟩
  have HB2 := hid (HB1.out.trans (hb.mono HB1.out.size))
  clear hb
  rw [beq_self_eq_true]
  go_wp2_with fail
  go_ret
  exact ⟨rfl, HB2.out⟩
end Go.Proofs.YtilamfbpbgcnpaaDoor
/- How many pairs a query tells; what Parse answers, in its ways. -/
namespace Go.Proofs.YtilamfbpbgcnpaaDoor
open Go.RowKit Go.Shelf
set_option linter.unusedVariables false
set_option maxRecDepth 20000
theorem splitG_app' (c : UInt8) : ∀ (a acc b : List UInt8), splitG c acc (a ++ c :: b) = splitG c acc a ++ splitG c [] b
  | [], acc, b => by rw [List.nil_append, splitG_sep, splitG_nil]; rfl
  | x :: r, acc, b => by
    by_cases h : x = c
    · subst h; rw [List.cons_append, splitG_sep, splitG_sep, splitG_app' x r [] b]; rfl
    · rw [List.cons_append, splitG_other h, splitG_other h, splitG_app' c r _ b]
/-- How many pieces are something; their pairs. -/
def cntR (s : List UInt8) : Nat := (some1 (splitR 38 s)).length
def prsR (s : List UInt8) : List Pr := curP (splitR 38 s)
theorem prsR_len (s : List UInt8) : (prsR s).length = cntR s := curP_len _
theorem parse_long {s : List UInt8} (h : 4000 < s.length) : parseR s = ([], 3) := by unfold parseR; rw [if_pos h]
theorem parse_many {s : List UInt8} (h : s.length ≤ 4000) (h2 : 256 < cntR s) : parseR s = ([], 11) := by unfold parseR; rw [if_neg (by omega)]; exact if_pos h2
theorem parse_ok {s : List UInt8} (h : s.length ≤ 4000) (h2 : cntR s ≤ 256) : parseR s = (prsR s, 0) := by unfold parseR; rw [if_neg (by omega)]; exact if_neg (by unfold cntR at h2; omega)
theorem some1_app (a b : List (List UInt8)) : some1 (a ++ b) = some1 a ++ some1 b := List.filter_append a b
theorem cnt_app (s t : List UInt8) : cntR (s ++ 38 :: t) = cntR s + cntR t := by
  unfold cntR splitR; rw [splitG_app', some1_app, List.length_append]
theorem prs_app (s t : List UInt8) : prsR (s ++ 38 :: t) = prsR s ++ prsR t := by
  unfold prsR curP splitR; rw [splitG_app', some1_app, List.map_append]
/-- What Parse answers, in three ways. -/
theorem pparse_many {s : List UInt8} {w w' : World} {e : Ending} (h : ParsePost s w e w') (h1 : s.length ≤ 4000) (h2 : 256 < cntR s) : ∃ a c, e = .returned (.tuple #[.slice a 0 c, .int .i64 11]) ∧ Below w.heap.size w w' := by
  obtain ⟨v, rfl, hv, hb⟩ := h
  rw [parse_many h1 h2] at hv ⊢
  obtain ⟨a, c, rfl, _⟩ := hv
  exact ⟨a, c, rfl, hb⟩
theorem pparse_ok {s : List UInt8} {w w' : World} {e : Ending} (h : ParsePost s w e w') (h1 : s.length ≤ 4000) (h2 : cntR s ≤ 256) : ∃ a c, e = .returned (.tuple #[.slice a (cntR s) c, .int .i64 0]) ∧ PRow w' (.slice a (cntR s) c) (prsR s) ∧ Below w.heap.size w w' := by
  obtain ⟨v, rfl, hv, hb⟩ := h
  rw [parse_ok h1 h2] at hv ⊢
  have hv' := hv
  obtain ⟨a, c, rfl, _⟩ := hv
  rw [← prsR_len]
  exact ⟨a, c, rfl, hv', hb⟩
theorem pparse_any {s : List UInt8} {w w' : World} {e : Ending} (h : ParsePost s w e w') : ∃ a n c k, e = .returned (.tuple #[.slice a n c, .int .i64 k]) ∧ Below w.heap.size w w' := by
  obtain ⟨v, rfl, hv, hb⟩ := h
  obtain ⟨a, c, rfl, _⟩ := hv
  exact ⟨a, _, c, _, rfl, hb⟩
end Go.Proofs.YtilamfbpbgcnpaaDoor
