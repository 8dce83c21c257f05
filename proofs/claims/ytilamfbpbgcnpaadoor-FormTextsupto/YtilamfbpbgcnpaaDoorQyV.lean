/- The statements' few: are pairs few and short? What its yes says. -/
import Derived.Test.YtilamfbpbgcnpaaDoorQyE
namespace Go.Proofs.YtilamfbpbgcnpaaDoor
open Go.RowKit Go.Shelf
set_option linter.unusedVariables false
set_option maxRecDepth 20000
set_option linter.unusedSimpArgs false
def FewPost (l : List Pr) (e : Ending) : Prop := ∃ b, e = .returned (.bool b) ∧ (b = true → l.length ≤ 300)
theorem FewPost.yes {l : List Pr} {e : Ending} (b : Bool) (he : e = .returned (.bool b)) (hl : l.length ≤ 300) : FewPost l e := ⟨b, he, fun _ => hl⟩
theorem FewPost.no {l : List Pr} {e : Ending} (he : e = .returned (.bool false)) : FewPost l e := ⟨false, he, fun h => by cases h⟩
set_option maxHeartbeats 4000000 in
theorem few_calls (v : Value) (l : List Pr) (w : World) (hv : PRow w v l) :
    Calls Tryd.prog 8 #[v] w fun e w' => FewPost l e ∧ Below w.heap.size w w' := by
  obtain ⟨a, cap, rfl, h1, h2, h3⟩ := hv
  have H3 := hid h3
  clear h3
  unfold maxLen at h2
  go_enter Tryd.func8, Tryd.ntmps8
  go_wp2_with fail
  go_loopw [3, 4] (fun n i wr => ∃ (k : Nat) (z : Int), k ≤ l.length ∧ i = .int .i64 k ∧ n = .int .i64 z ∧ 0 ≤ z ∧ z ≤ 20000 ∧ Below w.heap.size w wr) (fun _ i _ => l.length - (intOf i).toNat)
  case atStart => exact ⟨0, 0, Nat.zero_le _, rfl, rfl, by decide, by decide, Below.refl _ _⟩
  case round =>
    obtain ⟨k, z, hk, rfl, rfl, hz0, hz1, hb⟩ := hrel
    have HB := hid hb
    by_cases hlt : k < l.length ∧ k < 300
    · obtain ⟨hlt, hk3⟩ := hlt
      obtain ⟨b, off, rfl, hbl, hc⟩ := H3.out (by intro h; simp [h] at hlt)
      have ck0 := (hb.cell (p := ⟨b, off + 2 * k, none⟩) hbl).trans (hc _ _ (flatP_at l k hlt).1)
      have ck1 := (hb.cell (p := ⟨b, off + (2 * k + 1), none⟩) hbl).trans (hc _ _ (flatP_at l k hlt).2)
      rw [Nat.mul_comm 2 k] at ck0 ck1
      rw [← Nat.add_assoc] at ck1
      have k0 : (0 : Int) ≤ (k : Int) := by omega
      have k1 : (k : Int) < (l.length : Int) := by omega
      have k2 : (k : Int) < 300 := by omega
      clear hc hb
      generalize l[k] = c at *
      obtain ⟨c1, c2⟩ := c
      simp only [fq] at ck0 ck1
      have n0 : (0 : Int) ≤ ((strOf c1).size : Int) := by omega
      have n1 : (0 : Int) ≤ ((strOf c2).size : Int) := by omega
      go_wp2_with fail
      go_region
      have HB2 := hid HB.out.drew
      generalize wr.drew = wx at *
      clear ck0 ck1
      have hz' : 0 ≤ min (z + min ((strOf c1).size : Int) 5000 + min ((strOf c2).size : Int) 5000) 20000 ∧ min (z + min ((strOf c1).size : Int) 5000 + min ((strOf c2).size : Int) 5000) 20000 ≤ 20000 := by omega
      generalize min (z + min ((strOf c1).size : Int) 5000 + min ((strOf c2).size : Int) 5000) 20000 = z2 at *
      go_wp2_with fail
      go_roundw
      case rel => exact ⟨k + 1, z2, by omega, by go_num, rfl, hz'.1, hz'.2, HB2.out⟩
      case measure => simp [intOf]; omega
    · have k3 : (k : Int) ≤ (l.length : Int) := by omega
      clear hb
      rcases Nat.lt_or_ge k l.length with q | q
      · have q1 : (k : Int) < (l.length : Int) := by omega
        have q2 : (300 : Int) ≤ (k : Int) := by omega
        have q3 : (300 : Int) < (l.length : Int) := by omega
        clear hlt
        go_wp2_with fail
        all_goals go_ret
        all_goals exact ⟨FewPost.no rfl, HB.out⟩
      · have q1 : (l.length : Int) ≤ (k : Int) := by omega
        clear hlt
        rcases Nat.lt_or_ge 300 l.length with q5 | q5
        · have q3 : (300 : Int) < (l.length : Int) := by omega
          go_wp2_with fail
          all_goals go_ret
          all_goals exact ⟨FewPost.no rfl, HB.out⟩
        · have q3 : (l.length : Int) ≤ 300 := by omega
          go_wp2_with fail
          all_goals go_ret
          all_goals exact ⟨FewPost.yes _ rfl q5, HB.out⟩
end Go.Proofs.YtilamfbpbgcnpaaDoor
