/- Plain facts of digits of 16. -/
import Derived.Test.YtbaomapkggomfaaDoorHexW
namespace Go.Proofs.YtbaomapkggomfaaDoor
set_option linter.unusedVariables false
/-- The value of a small digit. -/
def dv (c : UInt8) : Option Nat := if 48 ≤ c.toNat ∧ c.toNat ≤ 57 then some (c.toNat - 48) else if 97 ≤ c.toNat ∧ c.toNat ≤ 102 then some (c.toNat - 87) else none
theorem dv_lt {c : UInt8} {h : Nat} (e : dv c = some h) : h < 16 := by
  unfold dv at e
  split at e
  · simp at e; omega
  · split at e
    · simp at e; omega
    · cases e
theorem dg_all : ∀ h : Fin 16, dv (dg h.val) = some h.val := by decide +kernel
theorem dv_dg (h : Nat) (hh : h < 16) : dv (dg h) = some h := dg_all ⟨h, hh⟩
theorem dg_dv_all : ∀ c : Fin 256, dv (UInt8.ofNat c.val) = none ∨ ∃ h : Fin 16, dv (UInt8.ofNat c.val) = some h.val ∧ dg h.val = UInt8.ofNat c.val := by decide +kernel
theorem dg_dv {c : UInt8} {h : Nat} (e : dv c = some h) : dg h = c := by
  have hc : UInt8.ofNat c.toNat = c := by simp
  rcases dg_dv_all ⟨c.toNat, byte_lt c⟩ with hn | ⟨h', e1, e2⟩
  · rw [hc] at hn; rw [hn] at e; cases e
  · rw [hc] at e1 e2; rw [e1] at e; injection e with e; rw [← e]; exact e2
theorem pair_dv (c : UInt8) : dv (dg (c.toNat / 16)) = some (c.toNat / 16) ∧ dv (dg (c.toNat % 16)) = some (c.toNat % 16) := ⟨dv_dg _ (by have := byte_lt c; omega), dv_dg _ (by omega)⟩
theorem pair_of (h l : Nat) (hh : h < 16) (hl : l < 16) : pairL (UInt8.ofNat (h * 16 + l)) = [dg h, dg l] := by
  unfold pairL
  have e : (UInt8.ofNat (h * 16 + l)).toNat = h * 16 + l := by simp; omega
  rw [e, show (h * 16 + l) / 16 = h by omega, show (h * 16 + l) % 16 = l by omega]
theorem hex_append (a b : List UInt8) : hexL (a ++ b) = hexL a ++ hexL b := by unfold hexL; rw [List.flatMap_append]
theorem hex_one (c : UInt8) : hexL [c] = pairL c := by simp [hexL]
theorem hex_split (l : List UInt8) (k : Nat) (h : k < l.length) : (hexL l)[2 * k]? = some (dg (l[k].toNat / 16)) ∧ (hexL l)[2 * k + 1]? = some (dg (l[k].toNat % 16)) := by
  have e : hexL l = hexL (l.take k) ++ (pairL l[k] ++ hexL (l.drop (k + 1))) := by
    rw [← List.append_assoc, ← hex_snoc l k h, ← hex_append, List.take_append_drop]
  have hlen : (hexL (l.take k)).length = 2 * k := by rw [hex_len, List.length_take]; omega
  rw [e]
  constructor
  · rw [List.getElem?_append_right (by omega), hlen, show 2 * k - 2 * k = 0 by omega]; rfl
  · rw [List.getElem?_append_right (by omega), hlen, show 2 * k + 1 - 2 * k = 1 by omega]; rfl
theorem byte_eq {c d : UInt8} (h : c.toNat / 16 = d.toNat / 16) (l : c.toNat % 16 = d.toNat % 16) : c = d := UInt8.toNat_inj.1 (by omega)
theorem hex_inj : ∀ {a b : List UInt8}, hexL a = hexL b → a = b := by
  intro a b h
  have hl : a.length = b.length := by have := congrArg List.length h; rw [hex_len, hex_len] at this; omega
  apply List.ext_getElem hl
  intro k h1 h2
  obtain ⟨p1, p2⟩ := hex_split a k h1
  obtain ⟨q1, q2⟩ := hex_split b k h2
  rw [h, q1] at p1
  rw [h, q2] at p2
  injection p1 with p1
  injection p2 with p2
  apply byte_eq
  · have := (pair_dv a[k]).1; rw [← p1, (pair_dv b[k]).1] at this; injection this with this; exact this.symm
  · have := (pair_dv a[k]).2; rw [← p2, (pair_dv b[k]).2] at this; injection this with this; exact this.symm
end Go.Proofs.YtbaomapkggomfaaDoor
