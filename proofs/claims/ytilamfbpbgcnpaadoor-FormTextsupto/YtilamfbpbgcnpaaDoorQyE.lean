/- What the chapter's example fixes. -/
import Derived.Test.YtilamfbpbgcnpaaDoorQyC
import Derived.Test.YtilamfbpbgcnpaaDoorQyD
namespace Go.Proofs.YtilamfbpbgcnpaaDoor
open Go.RowKit Go.Shelf
set_option linter.unusedVariables false
set_option maxRecDepth 20000
set_option linter.unusedSimpArgs false
theorem PRow.lit (w : World) (l : List Pr) (cur : Array Value) (hc : cur = (flatP l).toArray) (h : l.length ≤ 1000) : PRow (w.alloc (.cells cur 36)) (.slice (some ⟨w.heap.size, 0, none⟩) l.length l.length) l := by
  subst hc
  refine ⟨_, _, rfl, Nat.le_refl _, by unfold maxLen; omega, fun _ => ⟨_, _, rfl, by simp, fun j u hj => ?_⟩⟩
  rw [World.cell?_alloc_mark]
  simpa using hj
abbrev exA : List UInt8 := [97, 61, 98, 43, 99, 38, 38, 100, 38, 101, 61, 37, 52, 49, 61]
abbrev exL : List Pr := [([97], [98, 32, 99]), ([100], []), ([101], [65, 61])]
theorem ex_parse : parseR exA = (exL, 0) := by decide +kernel
theorem qfirst_calls (w : World) (T : MaxL w) : Calls Tryd.prog 7 #[] w fun e w' => e = .returned (.bool true) ∧ Below w.heap.size w w' := by
  have HP := hid (parse_calls ⟨#[97, 61, 98, 43, 99, 38, 38, 100, 38, 101, 61, 37, 52, 49, 61]⟩ w T)
  clear T
  go_enter Tryd.func7, Tryd.ntmps7
  go_wp2_with fail
  refine HP.out.mono ?_
  rintro e w1 ⟨v, rfl, hv, hb⟩
  change PRow w1 v (parseR exA).1 at hv
  rw [show (parseR (⟨#[97, 61, 98, 43, 99, 38, 38, 100, 38, 101, 61, 37, 52, 49, 61]⟩ : ByteArray).data.toList).2 = 0 from congrArg Prod.snd ex_parse]
  rw [ex_parse] at hv
  have HV := hid hv
  have HB := hid hb
  clear hv hb HP
  go_wp2_with fail
  have HR := hid (PRow.lit w1 exL #[.string ⟨#[97]⟩, .string ⟨#[98, 32, 99]⟩, .string ⟨#[100]⟩, .string ⟨#[]⟩, .string ⟨#[101]⟩, .string ⟨#[65, 61]⟩] rfl (by decide))
  have HB1 := hid (HB.out.alloc HB.out.size (.cells #[.string ⟨#[97]⟩, .string ⟨#[98, 32, 99]⟩, .string ⟨#[100]⟩, .string ⟨#[]⟩, .string ⟨#[101]⟩, .string ⟨#[65, 61]⟩] 36))
  refine (pairs_calls v _ exL exL _ (HV.out.below ((Below.refl _ _).alloc (Nat.le_refl _) _)) HR.out (by decide)).mono ?_
  rintro e w2 ⟨rfl, hb⟩
  have HB2 := hid (HB1.out.trans (hb.mono HB1.out.size))
  clear hb
  rw [beq_self_eq_true]
  go_wp2_with fail
  go_ret
  exact ⟨rfl, HB2.out⟩
end Go.Proofs.YtilamfbpbgcnpaaDoor
