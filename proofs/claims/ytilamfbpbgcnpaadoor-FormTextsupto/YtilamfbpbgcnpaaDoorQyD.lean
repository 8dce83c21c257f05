/- The document's Pairs: two lists of pairs held against each other. -/
import Derived.Test.YtilamfbpbgcnpaaDoorQyB
namespace Go.Proofs.YtilamfbpbgcnpaaDoor
open Go.RowKit Go.Shelf
set_option linter.unusedVariables false
set_option maxRecDepth 20000
set_option linter.unusedSimpArgs false
theorem strOf_inj {a b : List UInt8} (h : strOf a = strOf b) : a = b := by
  have := congrArg (fun s : ByteArray => s.data.toList) h
  simpa [strOf] using this
theorem pne_at {l m : List Pr} (k : Nat) (h1 : k < l.length) (h2 : k < m.length) (h : l[k] ≠ m[k]) : (l == m) = false := by
  rw [beq_eq_false_iff_ne]
  intro e; subst e; exact h rfl
theorem peq_all {l m : List Pr} (hl : l.length = m.length) (h : l.take l.length = m.take l.length) : (l == m) = true := by
  rw [List.take_length, hl, List.take_length] at h
  rw [h, beq_self_eq_true]
set_option maxHeartbeats 1000000 in
theorem pairs_calls (x y : Value) (l m : List Pr) (w : World) (hx : PRow w x l) (hy : PRow w y m) (hll : l.length ≤ 1000000) :
    Calls Tryd.prog 11 #[x, y] w fun e w' => e = .returned (.bool (l == m)) ∧ Below w.heap.size w w' := by
  obtain ⟨a, cap, rfl, h1, h2, h3⟩ := hx
  obtain ⟨a', cap', rfl, i1, i2, i3⟩ := hy
  have H3 := hid h3
  have I3 := hid i3
  clear h3 i3
  unfold maxLen at h2 i2
  by_cases hl : l.length = m.length
  · have HL := hid hl
    rw [← hl] at i1 ⊢
    clear hl
    go_enter Tryd.func11, Tryd.ntmps11
    go_wp2
    go_loopw [5] (fun i wr => ∃ k : Nat, k ≤ l.length ∧ i = .int .i64 k ∧ l.take k = m.take k ∧ Below w.heap.size w wr) (fun i _ => l.length - (intOf i).toNat)
    case atStart => exact ⟨0, Nat.zero_le _, rfl, rfl, Below.refl _ _⟩
    case round =>
      obtain ⟨k, hk, rfl, he, hb⟩ := hrel
      have HB := hid hb
      have HE := hid he
      clear he
      by_cases hlt : k < l.length
      · have hlt' : k < m.length := by have := HL.out; omega
        obtain ⟨b, off, rfl, hbl, hc⟩ := H3.out (by intro h; simp [h] at hlt)
        obtain ⟨b', off', rfl, hbl', hc'⟩ := I3.out (by intro h; simp [h] at hlt')
        have ck0 := (hb.cell (p := ⟨b, off + 2 * k, none⟩) hbl).trans (hc _ _ (flatP_at l k hlt).1)
        have ck1 := (hb.cell (p := ⟨b, off + (2 * k + 1), none⟩) hbl).trans (hc _ _ (flatP_at l k hlt).2)
        have dk0 := (hb.cell (p := ⟨b', off' + 2 * k, none⟩) hbl').trans (hc' _ _ (flatP_at m k hlt').1)
        have dk1 := (hb.cell (p := ⟨b', off' + (2 * k + 1), none⟩) hbl').trans (hc' _ _ (flatP_at m k hlt').2)
        rw [Nat.mul_comm 2 k] at ck0 ck1 dk0 dk1
        rw [← Nat.add_assoc] at ck1 dk1
        have HN := hid (pne_at k hlt hlt')
        have HT : Hid (l[k] = m[k] → l.take (k + 1) = m.take (k + 1)) := by
          intro h
          rw [List.take_succ_eq_append_getElem hlt, List.take_succ_eq_append_getElem hlt', HE.out, h]
        have k0 : (0 : Int) ≤ (k : Int) := by omega
        have k1 : (k : Int) < (l.length : Int) := by omega
        clear hc hc' hb
        generalize l[k] = c at *
        generalize m[k] = d at *
        obtain ⟨c1, c2⟩ := c
        obtain ⟨d1, d2⟩ := d
        have e : ∀ {a b : List UInt8}, ((strOf a).toList == (strOf b).toList) = (a == b) := by intro a b; rw [strOf_list, strOf_list]
        by_cases hc1 : c1 = d1
        · have n1 : ((strOf c1).toList == (strOf d1).toList) = true := by rw [e, beq_iff_eq]; exact hc1
          by_cases hc2 : c2 = d2
          · have n2 : ((strOf c2).toList == (strOf d2).toList) = true := by rw [e, beq_iff_eq]; exact hc2
            have HT2 := hid (HT.out (by rw [hc1, hc2]))
            clear e hc1 hc2
            go_wp2_with fail
            go_quiet (fail)
            have HB2 := hid (below_drewN HB.out nq)
            generalize wr.drewN nq = wx at *
            clear ck0 ck1 dk0 dk1
            go_wp2_with fail
            go_roundw
            case rel => exact ⟨k + 1, by omega, by go_num, HT2.out, HB2.out⟩
            case measure => simp [intOf]; omega
          · have n2 : ((strOf c2).toList == (strOf d2).toList) = false := by rw [e, beq_eq_false_iff_ne]; exact hc2
            have HF := hid (HN.out (fun h => hc2 (by injection h)))
            clear e hc1 hc2
            go_wp2_with fail
            go_quiet (fail)
            have HB2 := hid (below_drewN HB.out nq)
            generalize wr.drewN nq = wx at *
            clear ck0 ck1 dk0 dk1
            go_wp2_with fail
            go_ret
            exact ⟨by rw [HF.out]; rfl, HB2.out⟩
        · have n1 : ((strOf c1).toList == (strOf d1).toList) = false := by rw [e, beq_eq_false_iff_ne]; exact hc1
          have HF := hid (HN.out (fun h => hc1 (by injection h)))
          clear e hc1
          go_wp2_with fail
          go_quiet (fail)
          have HB2 := hid (below_drewN HB.out nq)
          generalize wr.drewN nq = wx at *
          clear ck0 ck1 dk0 dk1
          go_wp2_with fail
          go_ret
          exact ⟨by rw [HF.out]; rfl, HB2.out⟩
      · have hkl : k = l.length := by omega
        have HQ := hid (peq_all HL.out (by have := HE.out; rwa [hkl] at this))
        have k1 : (l.length : Int) ≤ (k : Int) := by omega
        clear hb hkl
        go_wp2_with fail
        go_ret
        exact ⟨by rw [HQ.out]; rfl, HB.out⟩
  · have hf : (l == m) = false := by
      rw [beq_eq_false_iff_ne]
      intro e
      exact hl (by rw [e])
    have hi : ((l.length : Nat) : Int) ≠ ((m.length : Nat) : Int) := by omega
    have hi2 : (((l.length : Nat) : Int) == ((m.length : Nat) : Int)) = false := by rw [beq_eq_false_iff_ne]; exact hi
    clear hl hi
    go_enter Tryd.func11, Tryd.ntmps11
    go_wp2_with fail
    go_ret
    exact ⟨by rw [hf]; rfl, Below.refl _ _⟩
end Go.Proofs.YtilamfbpbgcnpaaDoor
