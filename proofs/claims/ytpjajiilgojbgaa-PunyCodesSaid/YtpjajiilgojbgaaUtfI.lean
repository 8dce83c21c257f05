/- The walk of Ints: two lists of ints held against each other. -/
import Derived.Test.YtpjajiilgojbgaaRowW
namespace Go.Proofs.Ytpjajiilgojbgaa
open Go.RowKit
set_option linter.unusedVariables false
theorem ne_at {l m : List Int} (k : Nat) (h1 : k < l.length) (h2 : k < m.length) (h : l[k] ≠ m[k]) : (l == m) = false := by
  rw [beq_eq_false_iff_ne]
  intro e; subst e; exact h rfl
theorem eq_all {l m : List Int} (hl : l.length = m.length) (h : l.take l.length = m.take l.length) : (l == m) = true := by
  rw [List.take_length, hl, List.take_length] at h
  rw [h, beq_self_eq_true]
set_option maxHeartbeats 1000000 in
theorem ints_calls (x y : Value) (l m : List Int) (w : World) (hx : IRow w x l) (hy : IRow w y m) :
    Calls Try.prog 13 #[x, y] w fun e w' => e = .returned (.bool (l == m)) ∧ Below w.heap.size w w' := by
  obtain ⟨a, cap, rfl, h1, h2, h3⟩ := hx
  obtain ⟨a', cap', rfl, i1, i2, i3⟩ := hy
  have H3 := hid h3
  have I3 := hid i3
  clear h3 i3
  unfold maxLen at h2 i2
  by_cases hl : l.length = m.length
  · have HL := hid hl
    rw [← hl] at i1 ⊢
    clear hl
    go_enter Try.func13, Try.ntmps13
    go_wp2
    go_loopw [5] (fun i wr => ∃ k : Nat, k ≤ l.length ∧ i = .int .i64 k ∧ l.take k = m.take k ∧ Below w.heap.size w wr) (fun i _ => l.length - (intOf i).toNat)
    case atStart => exact ⟨0, Nat.zero_le _, rfl, rfl, Below.refl _ _⟩
    case round =>
      obtain ⟨k, hk, rfl, he, hb⟩ := hrel
      have HE := hid he
      have HB := hid hb
      clear he
      by_cases hlt : k < l.length
      · have hlt' : k < m.length := by have := HL.out; omega
        obtain ⟨b, off, rfl, hbl, hc⟩ := H3.out (by intro h; simp [h] at hlt)
        obtain ⟨b', off', rfl, hbl', hc'⟩ := I3.out (by intro h; simp [h] at hlt')
        have hck : wr.cell? ⟨b, off + k, none⟩ = some (.int .i64 l[k]) := (hb.cell (p := ⟨b, off + k, none⟩) hbl).trans (hc k hlt)
        have hck' : wr.cell? ⟨b', off' + k, none⟩ = some (.int .i64 m[k]) := (hb.cell (p := ⟨b', off' + k, none⟩) hbl').trans (hc' k hlt')
        have HN := hid (ne_at k hlt hlt')
        have HT : Hid (l[k] = m[k] → l.take (k + 1) = m.take (k + 1)) := by
          intro h
          rw [List.take_succ_eq_append_getElem hlt, List.take_succ_eq_append_getElem hlt', HE.out, h]
        have k0 : (0 : Int) ≤ (k : Int) := by omega
        have k1 : (k : Int) < (l.length : Int) := by omega
        clear hc hc' hb
        generalize l[k] = c at *
        generalize m[k] = d at *
        by_cases hcd : c = d
        · subst hcd
          have HT2 := hid (HT.out rfl)
          go_wp2_with fail
          go_quiet (fail)
          have HB2 := hid (below_drewN HB.out nq)
          generalize wr.drewN nq = wx at *
          clear hck hck'
          go_wp2_with fail
          go_roundw
          case rel => exact ⟨k + 1, by omega, by go_num, HT2.out, HB2.out⟩
          case measure => simp [intOf]; omega
        · have hcd' : (c == d) = false := by rw [beq_eq_false_iff_ne]; exact hcd
          have HF := hid (HN.out hcd)
          clear hcd
          go_wp2_with fail
          go_quiet (fail)
          have HB2 := hid (below_drewN HB.out nq)
          generalize wr.drewN nq = wx at *
          clear hck hck'
          go_wp2_with fail
          go_ret
          exact ⟨by rw [HF.out]; rfl, HB2.out⟩
      · have HF := hid (eq_all HL.out (by have : k = l.length := by omega
                                          rw [← this]; exact HE.out))
        clear hb
        go_wp2_with fail
        go_ret
        exact ⟨by rw [HF.out]; rfl, HB.out⟩
  · have hq : ((l.length : Int) == (m.length : Int)) = false := by rw [beq_eq_false_iff_ne]; omega
    have HF : Hid ((l == m) = false) := by
      show (l == m) = false
      rw [beq_eq_false_iff_ne]; intro e; exact hl (by rw [e])
    clear hl
    go_enter Try.func13, Try.ntmps13
    go_wp2
    go_ret
    exact ⟨by rw [HF.out]; rfl, Below.refl _ _⟩
end Go.Proofs.Ytpjajiilgojbgaa
