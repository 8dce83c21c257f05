/- The walk of the document's Unpuny. -/
import Derived.Test.YtpjajiilgojbgaaPunyX
namespace Go.Proofs.Ytpjajiilgojbgaa
open Go.RowKit
set_option linter.unusedVariables false
theorem lastIdx_snoc (s : ByteArray) (k : Nat) (h : k < s.size) : Lib.lastIdx s 45 (k + 1) = if (s[k].toNat : Int) = 45 then (k : Int) else Lib.lastIdx s 45 k := by
  have e : s.data[k]! = s[k] := by
    have h2 : k < s.data.size := h
    rw [getElem!_pos s.data k h2]; rfl
  show (if ((s.data[k]!).toNat : Int) = 45 then (k : Int) else Lib.lastIdx s 45 k) = _
  rw [e]
theorem lastIdx_lt (s : ByteArray) (k : Nat) : (Lib.lastIdx s 45 k).toNat ≤ k := by
  rcases Lib.lastIdx_spec s 45 k with ⟨h, _⟩ | ⟨i, h1, h2, _⟩
  · rw [h]; simp
  · rw [h2]; simp; omega
/-- The first of an own slice. -/
theorem own_take {w : World} {base g n cap : Nat} {l : List Nat} (h : NOwn w base (.slice (some ⟨g, 0, none⟩) n cap) l) (p : Nat) (hp : p ≤ l.length) : NOwn w base (.slice (some ⟨g, 0, none⟩) p cap) (l.take p) := by
  obtain ⟨f, hf, hn, hlc, hcm, hbg, hfl⟩ := rowIs_of_own h
  have hl : (l.take p).length = p := by rw [List.length_take]; omega
  have := own_of_rowIs (base := base) (l := l.take p) hf (by omega) hcm hbg (fun j c hj => by
    rw [List.getElem?_take] at hj
    split at hj
    · exact hfl j c hj
    · cases hj)
  rwa [hl] at this
/-- What stands from a place on. -/
theorem row_drop {w : World} {g n cap : Nat} {l : List Nat} (h : NRow w (.slice (some ⟨g, 0, none⟩) n cap) l) (p : Nat) (hp : p ≤ l.length) : NRow w (.slice (some ⟨g, p, none⟩) (l.length - p) (cap - p)) (l.drop p) := by
  obtain ⟨a', cap', he, h1, h2, h3⟩ := h
  injection he with e1 e2 e3
  subst e1 e2 e3
  refine ⟨_, _, by rw [List.length_drop], by rw [List.length_drop]; omega, by omega, fun hne => ?_⟩
  have hpl : p < l.length := by
    rcases Nat.lt_or_ge p l.length with h' | h'
    · exact h'
    · exact absurd (List.drop_eq_nil_of_le h') hne
  obtain ⟨b, off, he, hb, hc⟩ := h3 (by intro e; simp [e] at hpl)
  injection he with he
  injection he with e1 e2
  subst e1 e2
  refine ⟨g, p, rfl, hb, fun i hi => ?_⟩
  rw [List.length_drop] at hi
  have := hc (p + i) (by omega)
  rw [Nat.zero_add] at this
  rw [this, List.getElem_drop]
theorem row_none {w : World} {l : List Nat} (p n : Nat) (A : Option Addr) (C : Nat) (hp : l.length ≤ p) (hn : n = 0) (hC : C ≤ maxLen) : NRow w (.slice A n C) (l.drop p) := by
  rw [List.drop_eq_nil_of_le hp]
  subst hn
  exact ⟨A, C, rfl, Nat.zero_le _, hC, fun h => absurd rfl h⟩
end Go.Proofs.Ytpjajiilgojbgaa
