/- What the frames of statements with no laid variable share: arguments that are slices of bytes or of ints. -/
import Derived.Test.YtilamfbpbgcnpaaDoorRowW
import Derived.ProofKit
import Derived.ShutString
import Derived.ChangeOld
namespace Go.Proofs.YtilamfbpbgcnpaaDoor
open Go.ChangeShapes Go.WideShapes Go.ChangeAt Go.RowKit
set_option linter.unusedVariables false
set_option maxRecDepth 20000
theorem own : ownKnob Tryd.prog.godebug = none := by kernel_rfl
theorem laidOut : laidOutB Tryd.prog = true := by kernel_rfl
theorem row_mk {α : Type} {f : α → Value} {k : IntKind} {W : World} {x : Addr} {len cap : Nat} {zs : List Int} {g : Int → α} (hl : len ≤ cap) (hm : cap ≤ maxLen) (hz : zs.length = cap)
    (hcell : ∀ i, i < zs.length → W.cell? (x.add i) = some (.int k (zs.getD i 0))) (hg : ∀ n ∈ zs, f (g n) = .int k n) : Row f W (.slice (some x) len cap) ((zs.take len).map g) := by
  have hlen : ((zs.take len).map g).length = len := by simp; omega
  refine ⟨some x, cap, by rw [hlen], by rw [hlen]; exact hl, hm, fun hne => ?_⟩
  obtain ⟨b, off, spot⟩ := x
  have hpos : 0 < len := by
    rcases Nat.eq_zero_or_pos len with h | h
    · subst h; simp at hne
    · exact h
  have h0 := hcell 0 (by omega)
  have hspot : spot = none := by simpa [Addr.add] using World.cell?_spot h0
  subst hspot
  refine ⟨b, off, rfl, World.block_lt_of_cell? W _ (by simpa [Addr.add] using h0), fun i hi => ?_⟩
  rw [hlen] at hi
  have hi' : i < zs.length := by omega
  have hc := hcell i hi'
  rw [addr_add] at hc
  rw [hc]
  have hw := hg zs[i] (List.getElem_mem hi')
  simp only [List.getD_eq_getElem?_getD, List.getElem?_eq_getElem hi', Option.getD_some]
  rw [← hw]
  simp
theorem brow_mk {W : World} {x : Addr} {len cap : Nat} {zs : List Int} (hl : len ≤ cap) (hm : cap ≤ maxLen) (hz : zs.length = cap)
    (hcell : ∀ i, i < zs.length → W.cell? (x.add i) = some (.int .u8 (zs.getD i 0))) (hwz : ∀ n ∈ zs, (Lit.int .u8 n).wf = true) : ∃ l, BRow W (.slice (some x) len cap) l :=
  ⟨_, row_mk (g := fun n => UInt8.ofNat n.toNat) hl hm hz hcell fun n hn => by
    have := bounds_u8 (hwz n hn)
    simp only [fb]
    congr 1
    simp
    omega⟩
theorem irow_mk {W : World} {x : Addr} {len cap : Nat} {zs : List Int} (hl : len ≤ cap) (hm : cap ≤ maxLen) (hz : zs.length = cap)
    (hcell : ∀ i, i < zs.length → W.cell? (x.add i) = some (.int .i64 (zs.getD i 0))) (hwz : ∀ n ∈ zs, (Lit.int .i64 n).wf = true) : ∃ l, IRow W (.slice (some x) len cap) l :=
  ⟨_, row_mk (g := fun n => n) hl hm hz hcell fun n hn => rfl⟩
end Go.Proofs.YtilamfbpbgcnpaaDoor
