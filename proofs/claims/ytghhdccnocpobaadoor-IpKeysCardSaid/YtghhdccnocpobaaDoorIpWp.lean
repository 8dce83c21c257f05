/- Plain: what stands ahead of the first colons and behind them; a row of pieces as the program reads it. -/
import Derived.Test.YtghhdccnocpobaaDoorIpWn
import Derived.Lib.IndexMore
namespace Go.Proofs.YtghhdccnocpobaaDoor
open Go.RowKit
set_option linter.unusedVariables false
set_option maxRecDepth 20000
set_option linter.unusedSimpArgs false
/- cut at two colons -/
theorem occ_two (l : List UInt8) (k : Nat) : Lib.occAt l [58, 58] k = true ↔ ∃ h : k + 1 < l.length, l[k] = 58 ∧ l[k + 1] = 58 := by
  constructor
  · intro h
    rcases Lib.occAt_room h with hr | hr
    · have hk : k + 1 < l.length := by simp at hr; omega
      refine ⟨hk, ?_⟩
      unfold Lib.occAt at h
      rw [two_drop hk] at h
      simp [List.isPrefixOf] at h
      exact ⟨h.1.symm, h.2.symm⟩
    · cases hr
  · rintro ⟨hk, h1, h2⟩
    unfold Lib.occAt
    rw [two_drop hk, h1, h2]
    simp [List.isPrefixOf]
theorem cutF : ∀ (n : Nat) (l : List UInt8) (k : Nat), l.length - k = n → CutAt l k → (∀ j, j < k → Lib.occAt l [58, 58] j = false) →
    match cutG [] l with
    | none => Lib.cut l [58, 58] = (l, [], false)
    | some (a, b) => Lib.cut l [58, 58] = (a, b, true)
  | n, l, k, hn, hc, hno => by
    by_cases hk : k + 1 < l.length
    · by_cases h2 : l[k] = 58 ∧ l[k + 1] = 58
      · rw [hc.found hk h2.1 h2.2]
        have hi := Lib.index_first (s := l) (sub := [58, 58]) (i := k) (by omega) ((occ_two l k).2 ⟨hk, h2⟩) hno
        show Lib.cut l [58, 58] = _
        unfold Lib.cut
        rw [hi, if_pos (by omega)]
        rfl
      · have hc2 := hc.more hk h2
        match n, hn with
        | 0, hn => omega
        | n + 1, hn =>
          refine cutF n l (k + 1) (by omega) hc2 (fun j hj => ?_)
          rcases Nat.lt_or_ge j k with h | h
          · exact hno j h
          · have : j = k := by omega
            subst this
            cases h3 : Lib.occAt l [58, 58] j with
            | false => rfl
            | true => obtain ⟨_, h4⟩ := (occ_two l j).1 h3; exact absurd h4 h2
    · rw [hc.none hk]
      have hi := Lib.index_none (s := l) (sub := [58, 58]) (fun j hj => by
        rcases Nat.lt_or_ge j k with h | h
        · exact hno j h
        · cases h3 : Lib.occAt l [58, 58] j with
          | false => rfl
          | true => obtain ⟨h4, _⟩ := (occ_two l j).1 h3; omega)
      show Lib.cut l [58, 58] = _
      unfold Lib.cut
      rw [hi, if_neg (by decide)]
theorem cut_none2 {l : List UInt8} (h : cutG [] l = none) : Lib.cut l [58, 58] = (l, [], false) := by
  have := cutF _ l 0 rfl (CutAt.start l) (fun j hj => by omega)
  rw [h] at this; exact this
theorem cut_some2 {l a b : List UInt8} (h : cutG [] l = some (a, b)) : Lib.cut l [58, 58] = (a, b, true) := by
  have := cutF _ l 0 rfl (CutAt.start l) (fun j hj => by omega)
  rw [h] at this; exact this
/- cut at a colon -/
theorem cut_colon (l : List UInt8) : (Lib.cut l [58] = (l, [], false) ∧ splitR 58 l = [l]) ∨ (∃ a b, Lib.cut l [58] = (a, b, true) ∧ splitR 58 l = a :: splitR 58 b ∧ a.length + b.length < l.length) := by
  unfold Lib.cut
  rw [Lib.index_one]
  rcases Int.lt_or_le (Lib.indexByte l 58) 0 with hi | hi
  · have he : Lib.indexByte l 58 = -1 := by have := Lib.indexByte_ge l 58; omega
    left
    rw [if_neg (by omega)]
    refine ⟨rfl, ?_⟩
    unfold splitR
    rw [splitG_none 58 l [] (Lib.indexByte_none he)]
    rfl
  · obtain ⟨k, hk⟩ : ∃ k : Nat, Lib.indexByte l 58 = k := ⟨(Lib.indexByte l 58).toNat, by omega⟩
    obtain ⟨h1, h2⟩ := Lib.indexByte_some hk
    right
    rw [if_pos hi, hk]
    refine ⟨l.take k, l.drop (k + 1), rfl, ?_, ?_⟩
    · unfold splitR
      exact splitG_found h1 h2
    · have hlt : k < l.length := by
        rcases Nat.lt_or_ge k l.length with h | h
        · exact h
        · rw [List.getElem?_eq_none h] at h1; cases h1
      rw [List.length_take, List.length_drop]; omega
/- A row -/
def pcR (dec : Bool) (p : List UInt8) : Option (List Nat) := if dec = true ∧ 1 < (splitR 46 p).length then fourR p else if p = [] ∨ 4 < p.length ∨ digsR 16 p = false then none else some [valX 16 p]
def rowR (last : Bool) (l : List UInt8) : Option (List Nat) := match piecesR last l with
  | none => none
  | some ns => if ns.length ≤ 8 then some ns else none
theorem rowR_none {last : Bool} {l : List UInt8} (h : piecesR last l = none) : rowR last l = none := by unfold rowR; rw [h]
theorem rowR_some {last : Bool} {l : List UInt8} {ns : List Nat} (h : piecesR last l = some ns) (hn : ns.length ≤ 8) : rowR last l = some ns := by unfold rowR; rw [h]; exact if_pos hn
theorem rowR_many {last : Bool} {l : List UInt8} {ns : List Nat} (h : piecesR last l = some ns) (hn : ¬ ns.length ≤ 8) : rowR last l = none := by unfold rowR; rw [h]; exact if_neg hn
/-- So far: ns; what is left is 'rest', if there is more. -/
def RowAt (last : Bool) (l : List UInt8) (more : Bool) (rest : List UInt8) (ns : List Nat) : Prop :=
  ns.length ≤ 8 ∧ piecesR last l = if more = true then (goP last (splitR 58 rest)).map (ns ++ ·) else some ns
theorem RowAt.start0 (last : Bool) (rest : List UInt8) : RowAt last [] false rest [] := ⟨by simp, by simp [piecesR]⟩
theorem RowAt.start1 {last : Bool} {l : List UInt8} (h : l ≠ []) : RowAt last l true l [] := ⟨by simp, by simp [piecesR, h]⟩
theorem RowAt.done {last : Bool} {l rest : List UInt8} {ns : List Nat} (h : RowAt last l false rest ns) : rowR last l = some ns := rowR_some (by have := h.2; simpa using this) h.1
theorem go_last (last : Bool) (p : List UInt8) : goP last [p] = pcR last p := by
  show (if last = true ∧ ([] : List (List UInt8)) = [] ∧ 1 < (splitR 46 p).length then fourR p else if p = [] ∨ 4 < p.length ∨ digsR 16 p = false then none else (some []).map (valX 16 p :: ·)) = _
  unfold pcR
  by_cases h : last = true ∧ 1 < (splitR 46 p).length
  · rw [if_pos ⟨h.1, rfl, h.2⟩, if_pos h]
  · rw [if_neg (fun e => h ⟨e.1, e.2.2⟩), if_neg h]; rfl
theorem go_more (last : Bool) (p : List UInt8) {r : List (List UInt8)} (hr : r ≠ []) : goP last (p :: r) = match pcR false p with
    | none => none
    | some a => (goP last r).map (a ++ ·) := by
  show (if last = true ∧ r = [] ∧ 1 < (splitR 46 p).length then fourR p else if p = [] ∨ 4 < p.length ∨ digsR 16 p = false then none else (goP last r).map (valX 16 p :: ·)) = _
  rw [if_neg (fun e => hr e.2.1)]
  have e0 : pcR false p = if p = [] ∨ 4 < p.length ∨ digsR 16 p = false then none else some [valX 16 p] := if_neg (fun e => by cases e.1)
  rw [e0]
  by_cases h : p = [] ∨ 4 < p.length ∨ digsR 16 p = false
  · rw [if_pos h, if_pos h]
  · rw [if_neg h, if_neg h]; rfl
theorem RowAt.one_none {last : Bool} {l rest : List UInt8} {ns : List Nat} (h : RowAt last l true rest ns) (hs : splitR 58 rest = [rest]) (hp : pcR last rest = none) : rowR last l = none := by
  refine rowR_none ?_
  rw [h.2, if_pos rfl, hs, go_last, hp]; rfl
theorem RowAt.one_many {last : Bool} {l rest : List UInt8} {ns a : List Nat} (h : RowAt last l true rest ns) (hs : splitR 58 rest = [rest]) (hp : pcR last rest = some a) (hm : 8 < ns.length + a.length) : rowR last l = none := by
  refine rowR_many (ns := ns ++ a) ?_ (by simp; omega)
  rw [h.2, if_pos rfl, hs, go_last, hp]; rfl
theorem RowAt.one {last : Bool} {l rest : List UInt8} {ns a : List Nat} (h : RowAt last l true rest ns) (hs : splitR 58 rest = [rest]) (hp : pcR last rest = some a) (hm : ¬ 8 < ns.length + a.length) (r : List UInt8) : RowAt last l false r (ns ++ a) := by
  refine ⟨by simp; omega, ?_⟩
  rw [h.2, if_pos rfl, hs, go_last, hp]; rfl
theorem RowAt.cut_none {last : Bool} {l rest a b : List UInt8} {ns : List Nat} (h : RowAt last l true rest ns) (hs : splitR 58 rest = a :: splitR 58 b) (hp : pcR false a = none) : rowR last l = none := by
  refine rowR_none ?_
  rw [h.2, if_pos rfl, hs, go_more last a (hr := splitR_ne 58 b), hp]; rfl
theorem RowAt.cut_many {last : Bool} {l rest a b : List UInt8} {ns x : List Nat} (h : RowAt last l true rest ns) (hs : splitR 58 rest = a :: splitR 58 b) (hp : pcR false a = some x) (hm : 8 < ns.length + x.length) : rowR last l = none := by
  have e := h.2
  rw [if_pos rfl, hs, go_more last a (hr := splitR_ne 58 b), hp] at e
  cases hg : goP last (splitR 58 b) with
  | none => refine rowR_none ?_; rw [e]; show ((goP last (splitR 58 b)).map (x ++ ·)).map (ns ++ ·) = none; rw [hg]; rfl
  | some y =>
    refine rowR_many (ns := ns ++ (x ++ y)) ?_ (by simp; omega)
    rw [e]; show ((goP last (splitR 58 b)).map (x ++ ·)).map (ns ++ ·) = _; rw [hg]; rfl
theorem RowAt.cut {last : Bool} {l rest a b : List UInt8} {ns x : List Nat} (h : RowAt last l true rest ns) (hs : splitR 58 rest = a :: splitR 58 b) (hp : pcR false a = some x) (hm : ¬ 8 < ns.length + x.length) : RowAt last l true b (ns ++ x) := by
  refine ⟨by simp; omega, ?_⟩
  have e := h.2
  rw [if_pos rfl, hs, go_more last a (hr := splitR_ne 58 b), hp] at e
  rw [e, if_pos rfl]
  show ((goP last (splitR 58 b)).map (x ++ ·)).map (ns ++ ·) = _
  cases hg : goP last (splitR 58 b) with
  | none => rfl
  | some y => show some (ns ++ (x ++ y)) = some (ns ++ x ++ y); rw [List.append_assoc]
/- Parse6 by rows -/
theorem one_row {l : List UInt8} : oneR (piecesR true l) = oneR (rowR true l) := by
  unfold rowR
  cases h : piecesR true l with
  | none => rfl
  | some ns =>
    show oneR (some ns) = oneR (if ns.length ≤ 8 then some ns else none)
    by_cases h8 : ns.length ≤ 8
    · rw [if_pos h8]
    · rw [if_neg h8]; unfold oneR; exact if_neg (by omega)
theorem two_bad {a b : List Nat} (h : 8 ≤ a.length + b.length) : twoR (some a) (some b) = (z8, 4) := if_neg (by omega)
theorem two_none (x : Option (List Nat)) : twoR x none = (z8, 4) := by cases x <;> rfl
theorem two_row {x y : List UInt8} : twoR (piecesR false x) (piecesR true y) = twoR (rowR false x) (rowR true y) := by
  unfold rowR
  cases hx : piecesR false x with
  | none => rfl
  | some a =>
    cases hy : piecesR true y with
    | none => rw [two_none, two_none]
    | some b =>
      show twoR (some a) (some b) = twoR (if a.length ≤ 8 then some a else none) (if b.length ≤ 8 then some b else none)
      by_cases ha : a.length ≤ 8
      · rw [if_pos ha]
        by_cases hb : b.length ≤ 8
        · rw [if_pos hb]
        · rw [if_neg hb, two_none, two_bad (by omega)]
      · rw [if_neg ha, two_bad (by omega)]; rfl
end Go.Proofs.YtghhdccnocpobaaDoor
