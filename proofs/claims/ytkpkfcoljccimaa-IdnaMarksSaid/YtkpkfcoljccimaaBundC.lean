/- Texts of one proof, laid behind one another. -/
import Derived.Test.YtkpkfcoljccimaaBundA
import Derived.Deep.RegionHeld3
/- The walk of the document's Puny. -/
namespace Go.Proofs.Ytkpkfcoljccimaa
open Go.RowKit
set_option linter.unusedVariables false
theorem least_ref {m : List Nat} {n : Nat} (hm : ∀ c ∈ m, c ≤ 1114111) (hd : m.countP (· < n) < m.length) : lstF 1114112 n m = least m n := by
  obtain ⟨h1, h2, _, _⟩ := least_spec hm hd
  exact lstF_start m _ _ n (fun c hc => by have := hm c hc; omega) (fun c hc => by have := hm c hc; omega) ⟨_, h1, h2⟩
/-- Within a number. -/
def NumAt (F : List UInt8) (bias : Nat) (ys : List UInt8) (q k f : Nat) : Prop := F = ys ++ (numF f k bias q).map letter ∧ q < 2 ^ f ∧ q ≤ 3000000000 ∧ k + 36 * f ≤ 2340 ∧ ys.length + f ≤ 500064
theorem NumAt.start (xs : List UInt8) (bias n : Nat) (hn : n ≤ 3000000000) (hl : xs.length ≤ 500000) : NumAt (xs ++ (num bias n).map letter) bias xs n 36 64 :=
  ⟨rfl, Nat.lt_of_le_of_lt hn (by decide), hn, by decide, by omega⟩
theorem NumAt.last {F : List UInt8} {bias : Nat} {ys : List UInt8} {q k f : Nat} (h : NumAt F bias ys q k f) (hlt : q < thr k bias) : F = ys ++ [letter q] := by
  have t2 := thr_le k bias
  rw [h.1]
  cases f with
  | zero => show _ ++ List.map letter [q % 36] = _; rw [Nat.mod_eq_of_lt (by omega)]; rfl
  | succ g => show _ ++ List.map letter (if q < thr k bias then _ else _) = _; rw [if_pos hlt]; rfl
theorem NumAt.next {F : List UInt8} {bias : Nat} {ys : List UInt8} {q k f : Nat} (h : NumAt F bias ys q k f) (hlt : ¬ q < thr k bias) : ∃ g, NumAt F bias (ys ++ [letter (thr k bias + (q - thr k bias) % (36 - thr k bias))]) ((q - thr k bias) / (36 - thr k bias)) (k + 36) g ∧ (q - thr k bias) / (36 - thr k bias) < q := by
  have t1 := thr_ge k bias
  have t2 := thr_le k bias
  obtain ⟨hq, hf, hqm, hkf, hyl⟩ := h
  obtain ⟨g, rfl⟩ : ∃ g, f = g + 1 := by
    cases f with
    | zero => simp at hf; omega
    | succ g => exact ⟨g, rfl⟩
  have hdv := Nat.div_le_self (q - thr k bias) (36 - thr k bias)
  refine ⟨g, ⟨?_, num_less hf t1 t2, by omega, by omega, by simp; omega⟩, by omega⟩
  rw [hq]
  show _ ++ List.map letter (if q < thr k bias then _ else _) = _
  rw [if_neg hlt]; simp
end Go.Proofs.Ytkpkfcoljccimaa
/- The walk of the document's Puny, without own signs. -/
namespace Go.Proofs.Ytkpkfcoljccimaa
open Go.RowKit
set_option linter.unusedVariables false
end Go.Proofs.Ytkpkfcoljccimaa
/- The walk of the document's Puny, with own signs. -/
namespace Go.Proofs.Ytkpkfcoljccimaa
open Go.RowKit
set_option linter.unusedVariables false
end Go.Proofs.Ytkpkfcoljccimaa
/- The walk of the document's Puny. -/
namespace Go.Proofs.Ytkpkfcoljccimaa
open Go.RowKit
end Go.Proofs.Ytkpkfcoljccimaa
/- The document's Unpuny: the plain part; appending in a region that draws its order. -/
namespace Go.Proofs.Ytkpkfcoljccimaa
open Go.RowKit
set_option linter.unusedVariables false
theorem val_high {c : UInt8} (h : ¬ c.toNat < 128) : val c = none := by
  unfold val
  rw [if_neg (by omega), if_neg (by omega), if_neg (by omega)]
theorem rd_none : ∀ (l : List (Option Nat)) (n w k b m : Nat) (r : List (Option Nat)), rd l n w k b = some (m, r) → none ∈ l → none ∈ r
  | [], n, w, k, b, m, r, h, _ => by simp [rd] at h
  | none :: l, n, w, k, b, m, r, h, _ => by simp [rd] at h
  | some d :: l, n, w, k, b, m, r, h, hm => by
    have hm' : none ∈ l := by simpa using hm
    unfold rd at h
    split at h
    · cases h
    · split at h
      · injection h with h; injection h with h1 h2; subst h2; exact hm'
      · exact rd_none l _ _ _ _ _ _ h hm'
theorem insF_none : ∀ (f : Nat) (out : List Nat) (ds : List (Option Nat)) (s a b : Nat) (fl : Bool), none ∈ ds → insF f out ds s a b fl = none
  | 0, out, ds, s, a, b, fl, h => by
    have : ds ≠ [] := by intro e; subst e; cases h
    simp [insF, this]
  | f + 1, out, ds, s, a, b, fl, h => by
    have hne : ds ≠ [] := by intro e; subst e; cases h
    rw [insF_succ, if_neg hne]
    split
    · rfl
    · cases hr : rd ds a 1 36 b with
      | none => rfl
      | some x =>
        obtain ⟨to, rest⟩ := x
        simp only
        split
        · exact insF_none f _ _ _ _ _ _ (rd_none ds _ _ _ _ _ _ hr h)
        · rfl
/-- A weight that is too great is read no more. -/
theorem rd_big (l : List (Option Nat)) (n w k b : Nat) (h : most < w) : rd l n w k b = none := by
  match l with
  | [] => rfl
  | none :: _ => rfl
  | some d :: r => unfold rd; rw [if_pos (.inl h)]
theorem cut_mark (s : ByteArray) (h : cutOf s ≠ 0) : cutOf s < s.size ∧ (s.data[cutOf s]!).toNat = 45 ∧ Lib.lastIndexByte s 45 = (cutOf s : Int) := by
  unfold cutOf at h ⊢
  rcases Lib.lastIdx_spec s 45 s.size with ⟨h1, _⟩ | ⟨i, h1, h2, h3, _⟩
  · exfalso; apply h; show (Lib.lastIdx s 45 s.size).toNat = 0; rw [h1]; rfl
  · have e : Lib.lastIndexByte s 45 = (i : Int) := h2
    rw [e]
    exact ⟨by simpa using h1, by simpa using (by omega : (s.data[i]!).toNat = 45), by simp⟩
theorem dec_bad (s : ByteArray) (j : Nat) (c : UInt8) (hj : (bytesOf s)[j]? = some c) (hc : ¬ c.toNat < 128) : dec s = none := by
  have hv := val_high hc
  have hvj : (vals s)[j]? = some none := by unfold vals; rw [List.getElem?_map, hj]; simp [hv]
  have hjl : j < s.size := by
    rcases Nat.lt_or_ge j s.size with h' | h'
    · exact h'
    · rw [List.getElem?_eq_none (by rw [bytesOf_len]; exact h')] at hj; cases hj
  unfold dec
  split
  · exact insF_none _ _ _ _ _ _ _ (List.mem_of_getElem? hvj)
  · rename_i hz
    obtain ⟨m1, m2, _⟩ := cut_mark s hz
    split
    · rfl
    · split
      · rename_i hall
        rcases Nat.lt_trichotomy j (cutOf s) with h | h | h
        · exfalso
          have hmem : c ∈ (bytesOf s).take (cutOf s) := by
            refine List.mem_of_getElem? (i := j) ?_
            rw [List.getElem?_take_of_lt h, hj]
          have := List.all_eq_true.1 hall c hmem
          simp at this
          exact hc this
        · exfalso
          subst h
          have e : s.data[cutOf s]! = c := by
            have h2 : cutOf s < s.data.size := m1
            rw [getElem!_pos s.data _ h2]
            have h3 : (bytesOf s)[cutOf s]? = some (s.data[cutOf s]'h2) := by unfold bytesOf; simp
            rw [hj] at h3
            injection h3 with h3
            exact h3.symm
          rw [e] at m2
          omega
        · refine insF_none _ _ _ _ _ _ _ (List.mem_of_getElem? (i := j - (cutOf s + 1)) ?_)
          rw [List.getElem?_drop, show cutOf s + 1 + (j - (cutOf s + 1)) = j by omega, hvj]
      · rfl
def insG (f : Nat) (ys : List Nat) (ds : List (Option Nat)) (s a b : Nat) (fl : Bool) : Option (List Nat) := if 256 < ys.length then none else insF f ys ds s a b fl
theorem insG_nil (f : Nat) (ys : List Nat) (s a b : Nat) (fl : Bool) : insG f ys [] s a b fl = if 256 < ys.length then none else some ys := by unfold insG; rw [insF_nil]
theorem insG_none {f : Nat} {ys : List Nat} {ds : List (Option Nat)} {s a b : Nat} {fl : Bool} (hne : ds ≠ []) (hr : rd ds a 1 36 b = none) : insG (f + 1) ys ds s a b fl = none := by
  unfold insG
  split
  · rfl
  · rw [insF_succ, if_neg hne, hr]
    split <;> rfl
theorem insG_some {f : Nat} {ys : List Nat} {ds : List (Option Nat)} {s a b : Nat} {fl : Bool} {to : Nat} {rest : List (Option Nat)} (hne : ds ≠ []) (hr : rd ds a 1 36 b = some (to, rest)) :
    insG (f + 1) ys ds s a b fl = if isS ((s + to / (ys.length + 1) : Nat) : Int) = true ∧ ys.length < 256 then insG f (ins ys (to % (ys.length + 1)) (s + to / (ys.length + 1))) rest (s + to / (ys.length + 1)) (to % (ys.length + 1) + 1) (adapt (to - a) (ys.length + 1) fl) false else none := by
  have hp : to % (ys.length + 1) ≤ ys.length := by have := Nat.mod_lt to (y := ys.length + 1) (by omega); omega
  by_cases hl : ys.length < 256
  · unfold insG
    rw [if_neg (by omega), insF_succ, if_neg hne, if_neg (by omega), hr]
    simp only
    by_cases hs : isS ((s + to / (ys.length + 1) : Nat) : Int) = true
    · rw [if_pos hs, if_pos ⟨hs, hl⟩, ins_len _ _ _ hp, if_neg (by omega)]
      rfl
    · rw [if_neg hs, if_neg (fun h => hs h.1)]
  · rw [if_neg (fun h => hl h.2)]
    unfold insG
    split
    · rfl
    · rw [insF_succ, if_neg hne, if_pos (by omega)]
def startOf (s : ByteArray) : Nat := if cutOf s = 0 then 0 else cutOf s + 1
theorem dec_insG (s : ByteArray) (hall : ∀ c ∈ bytesOf s, c.toNat < 128) : dec s = insG (s.size - startOf s) (((bytesOf s).take (cutOf s)).map UInt8.toNat) ((vals s).drop (startOf s)) 128 0 72 true := by
  unfold dec insG startOf
  by_cases h : cutOf s = 0
  · rw [if_pos h, if_pos h, h, List.take_zero]
    simp
  · obtain ⟨m1, _, _⟩ := cut_mark s h
    have hl : (((bytesOf s).take (cutOf s)).map UInt8.toNat).length = cutOf s := by rw [List.length_map, List.length_take, bytesOf_len]; omega
    rw [if_neg h, if_neg h, hl]
    split
    · rfl
    · rw [if_pos]
      refine List.all_eq_true.2 fun c hc => ?_
      simpa using hall c (List.mem_of_mem_take hc)
/- Appending numbers. -/
theorem appendN_run {w : World} {base : Nat} {v : Value} {xs : List Nat} (hown : NOwn w base v xs) {x : Value} {l : List Nat} (hx : NRow w x l) (hlen : xs.length + l.length ≤ 1000000) (hbase : base ≤ w.heap.size) :
    ∃ v' w', (Builtin.append_ #[24, 24] 24 #[v, x]).run Try.prog w = .ok v' w' ∧ NOwn w' base v' (xs ++ l) ∧ w.grownBy w' v.ownBlock :=
  append_gen (fun _ => rfl) Try.underlying24 info_i64 rfl (by decide) hown hx hlen hbase
theorem step_appendN {w : World} {base : Nat} {v : Value} {xs : List Nat} {x : Value} {l : List Nat} (hown : NOwn w base v xs) (hrow : NRow w x l) (hlen : xs.length + l.length ≤ 1000000) (hbase : base ≤ w.heap.size)
    {ops : Array Oper} {o : Oper} {a : Act} {K : Act → World → Prop} {Q : Exit → Act → World → Prop} {E : Prop} (hgd : o.guard = none) (s y : Operand)
    (ho : o.op = .call { callee := .builtin .append, args := #[s, y], argTypes := #[24, 24] }) (hty : o.type = 24) (hs : a.eval s = v) (hx : a.eval y = x)
    (h : ∀ v' w', NOwn w' base v' (xs ++ l) → w.grownBy w' v.ownBlock → K (a.put o.dst v') w') :
    if Region.wanted o (yielded ops a.tmps) = true then Oper.wp Try.prog o a w K Q else E := by
  have hw : Region.wanted o (yielded ops a.tmps) = true := by simp [Region.wanted, hgd]
  rw [if_pos hw]
  obtain ⟨v', w', hr, ho', hg⟩ := appendN_run hown hrow hlen hbase
  unfold Oper.wp execOp
  simp only [ho, resolve, invoke, builtin, Sem.run_bind, Sem.run_pure, Result.andThen_ok, List.map_toArray, List.map_cons, List.map_nil, hs, hx, hty, hr]
  exact h v' w' ho' hg
end Go.Proofs.Ytkpkfcoljccimaa
/- The walk of the document's Unpuny. -/
namespace Go.Proofs.Ytkpkfcoljccimaa
open Go.RowKit
set_option linter.unusedVariables false
theorem lastIdx_snoc (s : ByteArray) (k : Nat) (h : k < s.size) : Lib.lastIdx s 45 (k + 1) = if (s[k].toNat : Int) = 45 then (k : Int) else Lib.lastIdx s 45 k := by
  have e : s.data[k]! = s[k] := by
    have h2 : k < s.data.size := h
    rw [getElem!_pos s.data k h2]; rfl
  show (if ((s.data[k]!).toNat : Int) = 45 then (k : Int) else Lib.lastIdx s 45 k) = _
  rw [e]
theorem lastIdx_lt (s : ByteArray) (k : Nat) : (Lib.lastIdx s 45 k).toNat ≤ k := by
  rcases Lib.lastIdx_spec s 45 k with ⟨h, _⟩ | ⟨i, h1, h2, _⟩
  · rw [h]; simp
  · rw [h2]; simp; omega
/-- The first of an own slice. -/
theorem own_take {w : World} {base g n cap : Nat} {l : List Nat} (h : NOwn w base (.slice (some ⟨g, 0, none⟩) n cap) l) (p : Nat) (hp : p ≤ l.length) : NOwn w base (.slice (some ⟨g, 0, none⟩) p cap) (l.take p) := by
  obtain ⟨f, hf, hn, hlc, hcm, hbg, hfl⟩ := rowIs_of_own h
  have hl : (l.take p).length = p := by rw [List.length_take]; omega
  have := own_of_rowIs (base := base) (l := l.take p) hf (by omega) hcm hbg (fun j c hj => by
    rw [List.getElem?_take] at hj
    split at hj
    · exact hfl j c hj
    · cases hj)
  rwa [hl] at this
/-- What stands from a place on. -/
theorem row_drop {w : World} {g n cap : Nat} {l : List Nat} (h : NRow w (.slice (some ⟨g, 0, none⟩) n cap) l) (p : Nat) (hp : p ≤ l.length) : NRow w (.slice (some ⟨g, p, none⟩) (l.length - p) (cap - p)) (l.drop p) := by
  obtain ⟨a', cap', he, h1, h2, h3⟩ := h
  injection he with e1 e2 e3
  subst e1 e2 e3
  refine ⟨_, _, by rw [List.length_drop], by rw [List.length_drop]; omega, by omega, fun hne => ?_⟩
  have hpl : p < l.length := by
    rcases Nat.lt_or_ge p l.length with h' | h'
    · exact h'
    · exact absurd (List.drop_eq_nil_of_le h') hne
  obtain ⟨b, off, he, hb, hc⟩ := h3 (by intro e; simp [e] at hpl)
  injection he with he
  injection he with e1 e2
  subst e1 e2
  refine ⟨g, p, rfl, hb, fun i hi => ?_⟩
  rw [List.length_drop] at hi
  have := hc (p + i) (by omega)
  rw [Nat.zero_add] at this
  rw [this, List.getElem_drop]
theorem row_none {w : World} {l : List Nat} (p n : Nat) (A : Option Addr) (C : Nat) (hp : l.length ≤ p) (hn : n = 0) (hC : C ≤ maxLen) : NRow w (.slice A n C) (l.drop p) := by
  rw [List.drop_eq_nil_of_le hp]
  subst hn
  exact ⟨A, C, rfl, Nat.zero_le _, hC, fun h => absurd rfl h⟩
end Go.Proofs.Ytkpkfcoljccimaa
/- The walk of the document's Unpuny, without a mark. -/
namespace Go.Proofs.Ytkpkfcoljccimaa
open Go.RowKit
set_option linter.unusedVariables false
end Go.Proofs.Ytkpkfcoljccimaa
/- The walk of the document's Unpuny, with a mark. -/
namespace Go.Proofs.Ytkpkfcoljccimaa
open Go.RowKit
set_option linter.unusedVariables false
end Go.Proofs.Ytkpkfcoljccimaa
/- The walk of the document's Unpuny. -/
namespace Go.Proofs.Ytkpkfcoljccimaa
open Go.RowKit
end Go.Proofs.Ytkpkfcoljccimaa
