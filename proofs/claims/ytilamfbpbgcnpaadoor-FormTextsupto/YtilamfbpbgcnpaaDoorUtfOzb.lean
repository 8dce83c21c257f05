/- The walk of one, the document's own reader of a sign. -/
import Derived.Test.YtilamfbpbgcnpaaDoorUtfOcb
import Derived.Test.YtilamfbpbgcnpaaDoorUtfOdb
import Derived.Test.YtilamfbpbgcnpaaDoorUtfOeb
import Derived.Test.YtilamfbpbgcnpaaDoorUtfOfb
namespace Go.Proofs.YtilamfbpbgcnpaaDoor.Bg
open Go.RowKit
set_option linter.unusedVariables false
set_option maxRecDepth 20000
theorem one_calls (v : Value) (l : List UInt8) (p : Nat) (w : World) (hv : BRow w v l) (hp : p < l.length) (hlen : l.length ≤ 2500000) :
    Calls Tryd.prog 44 #[v, .int .i64 (p : Int)] w fun e w' => OnePost (l.drop p) w e w' := by
  obtain ⟨a, cap, rfl, h1, h2, h3⟩ := hv
  obtain ⟨b, off, rfl, hbl, hc⟩ := h3 (by intro h; simp [h] at hp)
  have hx := byte_lt l[p]
  obtain ⟨x, ex⟩ : ∃ x : Nat, x = l[p].toNat := ⟨_, rfl⟩
  rcases (by omega : x ≤ 127 ∨ (128 ≤ x ∧ x ≤ 193) ∨ (194 ≤ x ∧ x ≤ 223) ∨ (224 ≤ x ∧ x ≤ 224) ∨ (225 ≤ x ∧ x ≤ 239 ∧ x ≠ 237) ∨ (237 ≤ x ∧ x ≤ 237) ∨ (240 ≤ x ∧ x ≤ 240) ∨ (241 ≤ x ∧ x ≤ 243) ∨ (244 ≤ x ∧ x ≤ 244) ∨ (245 ≤ x ∧ x ≤ 255)) with h | ⟨h1, h2⟩ | ⟨h1, h2⟩ | ⟨h1, h2⟩ | ⟨h1, h2, h3⟩ | ⟨h1, h2⟩ | ⟨h1, h2⟩ | ⟨h1, h2⟩ | ⟨h1, h2⟩ | ⟨h1, h2⟩
  · exact one_a b off cap p x l w hp hlen hc ex (Nat.zero_le _) h
  · exact one_b b off cap p x l w hp hlen hc ex h1 h2
  · exact one_c b off cap p x l w hp hlen hc ex h1 h2
  · exact one_d1 b off cap p x l w hp hlen hc ex h1 h2
  · exact one_dx b off cap p x l w hp hlen hc ex h1 h2 h3
  · exact one_d3 b off cap p x l w hp hlen hc ex h1 h2
  · exact one_e1 b off cap p x l w hp hlen hc ex h1 h2
  · exact one_e2 b off cap p x l w hp hlen hc ex h1 h2
  · exact one_e3 b off cap p x l w hp hlen hc ex h1 h2
  · exact one_f b off cap p x l w hp hlen hc ex h1 h2
end Go.Proofs.YtilamfbpbgcnpaaDoor.Bg
