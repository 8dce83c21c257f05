/- Texts of one proof, laid behind one another. -/
import Derived.Test.YtkpkfcoljccimaaBundG
import Derived.Test.YtkpkfcoljccimaaBundC
import Derived.Test.YtkpkfcoljccimaaBundA
import Derived.Test.YtkpkfcoljccimaaBundF
/- The walk of the document's Label. -/
namespace Go.Proofs.Ytkpkfcoljccimaa
open Go.RowKit
set_option linter.unusedVariables false
theorem insF_most : ∀ (f : Nat) (out : List Nat) (ds : List (Option Nat)) (s a b : Nat) (fl : Bool) (m : List Nat), out.length ≤ 256 → insF f out ds s a b fl = some m → m.length ≤ 256
  | 0, out, ds, s, a, b, fl, m, hl, h => by
    unfold insF at h
    split at h
    · injection h with h; subst h; exact hl
    · cases h
  | f + 1, out, ds, s, a, b, fl, m, hl, h => by
    rw [insF_succ] at h
    split at h
    · injection h with h; subst h; exact hl
    · split at h
      · cases h
      · rename_i h256
        cases hr : rd ds a 1 36 b with
        | none => rw [hr] at h; cases h
        | some x =>
          rw [hr] at h
          obtain ⟨to, rest⟩ := x
          simp only at h
          split at h
          · have hp : to % (out.length + 1) ≤ out.length := by have := Nat.mod_lt to (y := out.length + 1) (by omega); omega
            exact insF_most f _ _ _ _ _ _ m (by have := ins_len out (to % (out.length + 1)) (s + to / (out.length + 1)) hp; unfold ins at this; omega) h
          · cases h
theorem dec_most (s : ByteArray) (m : List Nat) (h : dec s = some m) : m.length ≤ 256 := by
  unfold dec at h
  split at h
  · exact insF_most _ _ _ _ _ _ _ m (by simp) h
  · split at h
    · cases h
    · split at h
      · exact insF_most _ _ _ _ _ _ _ m (by simp; omega) h
      · cases h
theorem decR_most (s : ByteArray) : (ints (decR s).1).length ≤ 256 := by
  unfold decR
  split
  · simp [ints]
  · split
    · simp [ints]
    · rename_i m h
      have := dec_most s m h
      simpa [ints] using this
theorem str_join (p : ByteArray) : (⟨#[120, 110, 45, 45]⟩ : ByteArray) ++ p = strOf ([120, 110, 45, 45] ++ bytesOf p) := by
  unfold strOf bytesOf
  apply ByteArray.ext
  simp
theorem str_drop (l : List UInt8) (k : Nat) (h : k ≤ l.length) : (strOf l).extract k (strOf l).size = strOf (l.drop k) := by
  apply ByteArray.ext
  have h1 : ((strOf l).extract k (strOf l).size).data.toList = l.drop k := by
    rw [strOf_size]
    simp [ByteArray.data_extract, strOf]
    try (rw [List.take_of_length_le]; simp)
  have : ((strOf l).extract k (strOf l).size).data = (l.drop k).toArray := by rw [← h1]
  rw [this]; rfl
theorem labR_mark {l : List Int} (h : asciiB l = false) (hm : markB (textL l) = true) : labR l = (strOf [], 4) := by unfold labR; rw [if_pos h, if_pos hm]
theorem labR_bad {l : List Int} (h : asciiB l = false) (hm : markB (textL l) = false) (he : (encR l).2 ≠ 0) : labR l = (strOf [], (encR l).2) := by unfold labR; rw [if_pos h, if_neg (by rw [hm]; decide), if_neg he]
theorem labR_high {l : List Int} (h : asciiB l = false) (hm : markB (textL l) = false) (he : (encR l).2 = 0) : labR l = (strOf ([120, 110, 45, 45] ++ bytesOf (encR l).1), 0) := by unfold labR; rw [if_pos h, if_neg (by rw [hm]; decide), if_pos he]
theorem labR_plain {l : List Int} (h : asciiB l = true) (hm : markB (textL l) = false) : labR l = (textB l, 0) := by unfold labR; rw [if_neg (by rw [h]; decide), if_pos hm]
theorem labR_back {l : List Int} (h : asciiB l = true) (hm : markB (textL l) = true) : labR l = if backOk (strOf ((textL l).drop 4)) = true then (textB l, 0) else (strOf [], 4) := by unfold labR; rw [if_neg (by rw [h]; decide), if_neg (by rw [hm]; decide)]
theorem kind_take (l : List Int) (k : Nat) (h : k < l.length) (h1 : ∀ c ∈ l.take k, kindR c = 1) (h2 : kindR l[k] = 1) : ∀ c ∈ l.take (k + 1), kindR c = 1 := by
  intro c hc
  rw [List.take_succ_eq_append_getElem h] at hc
  rcases List.mem_append.1 hc with g | g
  · exact h1 c g
  · rw [List.mem_singleton.1 g]; exact h2
theorem backOk_err {t : ByteArray} (h : (decR t).2 ≠ 0) : backOk t = false := by unfold backOk; simp [h]
theorem backOk_ascii {t : ByteArray} (h : asciiB (ints (decR t).1) = true) : backOk t = false := by unfold backOk; simp [h]
theorem backOk_mark {t : ByteArray} (h : markB (textL (ints (decR t).1)) = true) : backOk t = false := by unfold backOk; simp [h]
theorem backOk_kind {t : ByteArray} {c : Int} (hc : c ∈ ints (decR t).1) (h : kindR c ≠ 1) : backOk t = false := by
  unfold backOk
  have : (ints (decR t).1).all (fun c => kindR c == 1) = false := by
    rw [List.all_eq_false]
    exact ⟨c, hc, by simpa using h⟩
  rw [this]; simp
theorem backOk_enc {t : ByteArray} (h : (encR (ints (decR t).1)).2 ≠ 0) : backOk t = false := by unfold backOk; simp [h]
theorem backOk_ne {t : ByteArray} (h : (bytesOf (encR (ints (decR t).1)).1 == bytesOf t) = false) : backOk t = false := by unfold backOk; rw [h]; simp
theorem backOk_yes {t : ByteArray} (h1 : (decR t).2 = 0) (h2 : asciiB (ints (decR t).1) = false) (h3 : markB (textL (ints (decR t).1)) = false) (h4 : ∀ c ∈ ints (decR t).1, kindR c = 1) (h5 : (encR (ints (decR t).1)).2 = 0) (h6 : (bytesOf (encR (ints (decR t).1)).1 == bytesOf t) = true) : backOk t = true := by
  unfold backOk
  rw [h1, h2, h3, h5, h6, List.all_eq_true.2 (fun c hc => by simpa using h4 c hc)]
  rfl
theorem toList_bytes (s : ByteArray) : s.toList = bytesOf s := by rw [ByteArray.toList_eq]; rfl
end Go.Proofs.Ytkpkfcoljccimaa
/- The walk of the document's ToASCII. -/
namespace Go.Proofs.Ytkpkfcoljccimaa
open Go.RowKit
set_option linter.unusedVariables false
def dotB (first : Bool) : List UInt8 := if first then [] else [46]
def finA (x : List UInt8) : ByteArray × Int := if 253 < x.length then (strOf [], 3) else (strOf x, 0)
/-- The pieces between points as labels; the first error. -/
def goA : List UInt8 → Bool → List Int → List Int → ByteArray × Int
  | acc, first, cur, [] => if (labR cur).2 = 0 then finA (acc ++ dotB first ++ bytesOf (labR cur).1) else (strOf [], (labR cur).2)
  | acc, first, cur, c :: r => if c = 46 then (if (labR cur).2 = 0 then goA (acc ++ dotB first ++ bytesOf (labR cur).1) false [] r else (strOf [], (labR cur).2)) else goA acc first (cur ++ [c]) r
/-- A name. -/
def ascR (l : List Int) : ByteArray × Int := if 256 < l.length then (strOf [], 11) else if (l.all fun c => kindOf c != 4) = true then goA [] true [] (mapOf l) else (strOf [], 4)
theorem labR_size (l : List Int) (hl : l.length ≤ 100000) : (labR l).1.size ≤ 11000000 := by
  have h1 := text_len l
  have h2 := encR_size l
  have h3 : (textB l).size = (textL l).length := strOf_size _
  unfold labR
  split
  · split
    · rw [strOf_size]; simp
    · split
      · rw [strOf_size]; simp [bytesOf_len]; omega
      · rw [strOf_size]; simp
  · split
    · show (textB l).size ≤ _; omega
    · split
      · show (textB l).size ≤ _; omega
      · rw [strOf_size]; simp
theorem fine_all {l : List Int} (h : Fine l) : (l.all fun c => kindOf c != 4) = true := by
  rw [List.all_eq_true]
  intro c hc
  rw [bne_iff_ne]
  exact h c hc
theorem bad_all {l : List Int} {i : Nat} (h : BadAt l i) : (l.all fun c => kindOf c != 4) = false := by
  rw [List.all_eq_false]
  exact ⟨l[i]'h.1, List.getElem_mem h.1, by simp [h.2.1]⟩
theorem rowI_nil (w : World) (A : Option Addr) (C : Nat) (hC : C ≤ maxLen) : IRow w (.slice A 0 C) [] := ⟨A, C, rfl, Nat.zero_le _, hC, fun h => absurd rfl h⟩
theorem rowI_mid {w : World} {b off n cap : Nat} {l : List Int} (h : IRow w (.slice (some ⟨b, off, none⟩) n cap) l) (f i : Nat) (hf : f < i) (hi : i ≤ l.length) : IRow w (.slice (some ⟨b, off + f, none⟩) (i - f) (cap - f)) ((l.drop f).take (i - f)) := by
  obtain ⟨a', cap', he, h1, h2, h3⟩ := h
  injection he with e1 e2 e3
  subst e1 e2 e3
  have hln : ((l.drop f).take (i - f)).length = i - f := by rw [List.length_take, List.length_drop]; omega
  refine ⟨_, _, by rw [hln], by omega, by omega, fun _ => ?_⟩
  obtain ⟨b', off', he, hb, hc⟩ := h3 (by intro e; simp [e] at hi; omega)
  injection he with he
  injection he with e1 e2
  subst e1 e2
  refine ⟨b, off + f, rfl, hb, fun j hj => ?_⟩
  have := hc (f + j) (by omega)
  rw [Nat.add_assoc, this]
  simp
/-- A piece grows by a sign. -/
theorem piece_snoc {m : List Int} {f i : Nat} (hf : f ≤ i) (hi : i < m.length) : (m.drop f).take (i - f) ++ [m[i]] = (m.drop f).take (i + 1 - f) := by
  rw [show i + 1 - f = (i - f) + 1 by omega]
  rw [List.take_succ_eq_append_getElem (by rw [List.length_drop]; omega), List.getElem_drop]
  congr 2
  simp only [show f + (i - f) = i by omega]
theorem str_add (p q : ByteArray) : p ++ q = strOf (bytesOf p ++ bytesOf q) := by
  unfold strOf bytesOf
  apply ByteArray.ext
  simp
def AscAt (m : List Int) (R : ByteArray × Int) (o : ByteArray) (f i : Nat) : Prop :=
  o.size ≤ i * 11000001 ∧ ((f ≤ i ∧ i ≤ m.length ∧ R = goA (bytesOf o) (decide (f = 0)) ((m.drop f).take (i - f)) (m.drop i)) ∨ (i = m.length + 1 ∧ R = finA (bytesOf o)))
theorem AscAt.start (m : List Int) : AscAt m (goA [] true [] m) (strOf []) 0 0 := by
  unfold AscAt
  refine ⟨?_, .inl ⟨Nat.le_refl _, Nat.zero_le _, ?_⟩⟩
  · rw [strOf_size]; exact Nat.zero_le _
  · simp [bytesOf, strOf]
theorem AscAt.skip {m : List Int} {R : ByteArray × Int} {o : ByteArray} {f i : Nat} (h : AscAt m R o f i) (hi : i < m.length) (hc : m[i] ≠ 46) : AscAt m R o f (i + 1) := by
  obtain ⟨hs, ⟨hf, _, hr⟩ | ⟨h, _⟩⟩ := h
  · unfold AscAt
    refine ⟨?_, .inl ⟨by omega, hi, ?_⟩⟩
    · refine Nat.le_trans hs (Nat.mul_le_mul_right _ (by omega))
    · rw [hr, drop_at hi]
      show (if m[i] = 46 then _ else _) = _
      rw [if_neg hc, piece_snoc hf hi]
  · omega
theorem AscAt.err {m : List Int} {R : ByteArray × Int} {o : ByteArray} {f i : Nat} (h : AscAt m R o f i) (hi : i = m.length ∨ ∃ h : i < m.length, m[i] = 46) (he : (labR ((m.drop f).take (i - f))).2 ≠ 0) : R = (strOf [], (labR ((m.drop f).take (i - f))).2) := by
  obtain ⟨hs, ⟨hf, _, hr⟩ | ⟨h, _⟩⟩ := h
  · rw [hr]
    rcases hi with hi | ⟨hi, hc⟩
    · have e : m.drop i = [] := List.drop_eq_nil_of_le (by omega)
      rw [e]
      show (if _ then _ else _) = _
      rw [if_neg he]
    · rw [drop_at hi, hc]
      show (if (46 : Int) = 46 then _ else _) = _
      rw [if_pos rfl, if_neg he]
  · rcases hi with hi | ⟨hi, _⟩ <;> omega
theorem AscAt.ok {m : List Int} {R : ByteArray × Int} {o : ByteArray} {f i : Nat} (h : AscAt m R o f i) (hml : m.length ≤ 100000) (hi : i = m.length ∨ ∃ h : i < m.length, m[i] = 46) (he : (labR ((m.drop f).take (i - f))).2 = 0) (o' : ByteArray) (ho : bytesOf o' = bytesOf o ++ dotB (decide (f = 0)) ++ bytesOf (labR ((m.drop f).take (i - f))).1) : AscAt m R o' (i + 1) (i + 1) := by
  have hsz := labR_size ((m.drop f).take (i - f)) (by rw [List.length_take, List.length_drop]; omega)
  obtain ⟨hs, ⟨hf, _, hr⟩ | ⟨h, _⟩⟩ := h
  · unfold AscAt
    refine ⟨?_, ?_⟩
    · rw [Nat.add_mul, Nat.one_mul]
      have := congrArg List.length ho
      rw [List.length_append, List.length_append, bytesOf_len, bytesOf_len, bytesOf_len] at this
      have hd : (dotB (decide (f = 0))).length ≤ 1 := by unfold dotB; split <;> simp
      omega
    · rcases hi with hi | ⟨hi, hc⟩
      · right
        refine ⟨by omega, ?_⟩
        have e : m.drop i = [] := List.drop_eq_nil_of_le (by omega)
        rw [hr, e]
        show (if _ then _ else _) = _
        rw [if_pos he, ho]
      · left
        refine ⟨Nat.le_refl _, hi, ?_⟩
        rw [hr, drop_at hi, hc]
        show (if (46 : Int) = 46 then _ else _) = _
        rw [if_pos rfl, if_pos he, ho]
        simp
  · rcases hi with hi | ⟨hi, _⟩ <;> omega
theorem AscAt.fin {m : List Int} {R : ByteArray × Int} {o : ByteArray} {f i : Nat} (h : AscAt m R o f i) (hi : m.length < i) : i = m.length + 1 ∧ R = finA (bytesOf o) := by
  obtain ⟨hs, ⟨hf, h2, hr⟩ | h⟩ := h
  · omega
  · exact h
theorem AscAt.le {m : List Int} {R : ByteArray × Int} {o : ByteArray} {f i : Nat} (h : AscAt m R o f i) (hi : i ≤ m.length) : f ≤ i := by
  obtain ⟨hs, ⟨hf, h2, hr⟩ | ⟨h, _⟩⟩ := h
  · exact hf
  · omega
theorem AscAt.size {m : List Int} {R : ByteArray × Int} {o : ByteArray} {f i : Nat} (h : AscAt m R o f i) : o.size ≤ i * 11000001 ∧ i ≤ m.length + 1 := by
  obtain ⟨hs, ⟨hf, h2, hr⟩ | ⟨h, _⟩⟩ := h
  · exact ⟨hs, by omega⟩
  · exact ⟨hs, by omega⟩
end Go.Proofs.Ytkpkfcoljccimaa
/- The walk of the document's ToUnicode. -/
namespace Go.Proofs.Ytkpkfcoljccimaa
open Go.RowKit
set_option linter.unusedVariables false
/-- append to a great slice. -/
theorem appendI_big {w : World} {base : Nat} {v : Value} {xs : List Int} (hown : IOwn w base v xs) {x : Value} {l : List Int} (hx : IRow w x l) (hlen : xs.length + l.length ≤ 1000000000) (hbase : base ≤ w.heap.size) :
    ∃ v' w', (Builtin.append_ #[24, 24] 24 #[v, x]).run Try.prog w = .ok v' w' ∧ IOwn w' base v' (xs ++ l) ∧ w.grownBy w' v.ownBlock := by
  obtain ⟨i0, hi, hz0, hz1, hz2⟩ := info_parts info_i64
  have hx0 := hx
  obtain ⟨a, cap, rfl, h1, h2, h3⟩ := hx
  cases a with
  | none =>
    have hl : l = [] := by
      rcases List.eq_nil_or_concat l with h | ⟨l', c, h⟩
      · exact h
      · obtain ⟨b, off, he, _⟩ := h3 (by rw [h]; simp)
        cases he
    subst hl
    refine ⟨v, w, ?_, by rw [List.append_nil]; exact hown, ⟨rfl, rfl, rfl, Nat.le_refl _, fun _ _ _ => rfl⟩⟩
    rcases hown.2 with ⟨rfl, hl⟩ | ⟨g, cap', cur, rfl, _, _, hnc, _⟩
    · simp [Builtin.append_, run_underlying Try.underlying24, sizeOf, typeInfo, hi, Builtin.lenOf, Builtin.firstCells]
    · simp [Builtin.append_, run_underlying Try.underlying24, sizeOf, typeInfo, hi, Builtin.lenOf, Builtin.firstCells, hnc, storeCells]
  | some a =>
    obtain ⟨_, hc⟩ := Row.cells hx0
    obtain ⟨v', w', hr, ho, hg, _⟩ := run_append_own (P := Try.prog) w base 24 24 3 i0 (.int .i64 0) 1 8 Try.underlying24 hi hz0 hz1 hz2 rfl (by decide) v xs.length (xs.map fi) hown a l.length cap (l.map fi) (by simp) hc
      (by intro u hu; obtain ⟨y, _, rfl⟩ := List.mem_map.1 hu; rfl) (by unfold maxLen; omega) (Nat.le_trans (Nat.mul_le_mul hlen (Nat.le_refl 8)) (by decide)) hbase
    refine ⟨v', w', hr, ?_, hg⟩
    unfold IOwn Own
    rw [List.length_append, List.map_append]
    exact ho
def byteInts (b : List UInt8) : List Int := b.map fun c => (c.toNat : Int)
/-- A piece's signs. -/
def uniP (p : ByteArray) : List Int := if markB (bytesOf p) = true ∧ (decR (strOf ((bytesOf p).drop 4))).2 = 0 then ints (decR (strOf ((bytesOf p).drop 4))).1 else byteInts (bytesOf p)
def joinU : Bool → List ByteArray → List Int
  | first, [] => []
  | first, p :: r => (if first then [] else [46]) ++ uniP p ++ joinU false r
def uniR (s : ByteArray) : List Int := joinU true (splitB 46 (bytesOf s))
theorem goS_mem (c : UInt8) : ∀ (r cur p : List UInt8), p ∈ goS c cur r → p.length ≤ cur.length + r.length
  | [], cur, p, h => by simp [goS] at h; subst h; simp
  | x :: r, cur, p, h => by
    unfold goS at h
    split at h
    · rcases List.mem_cons.1 h with rfl | h
      · simp
      · have := goS_mem c r [] p h; simp at this ⊢; omega
    · have := goS_mem c r (cur ++ [x]) p h; simp at this ⊢; omega
theorem split_mem {c : UInt8} {b : List UInt8} {p : ByteArray} (h : p ∈ splitB c b) : p.size ≤ b.length := by
  obtain ⟨q, hq, rfl⟩ := List.mem_map.1 h
  rw [strOf_size]
  simpa using goS_mem c b [] q hq
theorem split_len (c : UInt8) (b : List UInt8) : (splitB c b).length ≤ b.length + 1 := by
  unfold splitB; rw [List.length_map]; exact goS_len c b []
theorem uniP_dec {p : ByteArray} (hm : markB (bytesOf p) = true) (hd : (decR (strOf ((bytesOf p).drop 4))).2 = 0) : uniP p = ints (decR (strOf ((bytesOf p).drop 4))).1 := by unfold uniP; rw [if_pos ⟨hm, hd⟩]
theorem uniP_err {p : ByteArray} (hd : (decR (strOf ((bytesOf p).drop 4))).2 ≠ 0) : uniP p = byteInts (bytesOf p) := by unfold uniP; rw [if_neg (fun h => hd h.2)]
theorem uniP_plain {p : ByteArray} (hm : markB (bytesOf p) = false) : uniP p = byteInts (bytesOf p) := by unfold uniP; rw [if_neg (fun h => by rw [hm] at h; cases h.1)]
theorem mark_len {b : List UInt8} (h : markB b = true) : 4 ≤ b.length := by
  unfold markB at h
  have h2 := congrArg List.length (beq_iff_eq.1 h)
  rw [List.length_take] at h2
  simp at h2
  omega
theorem byteInts_snoc (b : List UInt8) (k : Nat) (h : k < b.length) : byteInts (b.take (k + 1)) = byteInts (b.take k) ++ [(b[k].toNat : Int)] := by
  unfold byteInts
  rw [List.take_succ_eq_append_getElem h, List.map_append]; rfl
def UniAt (zs : List ByteArray) (R : List Int) (xs : List Int) (i : Nat) : Prop := i ≤ zs.length ∧ xs.length ≤ i * 6000 ∧ R = xs ++ joinU (decide (i = 0)) (zs.drop i)
theorem UniAt.next {zs : List ByteArray} {R xs : List Int} {i : Nat} (h : UniAt zs R xs i) (hi : i < zs.length) (hz : (uniP zs[i]).length ≤ 5999) : UniAt zs R (xs ++ (if i = 0 then [] else [46]) ++ uniP zs[i]) (i + 1) := by
  obtain ⟨h1, h2, h3⟩ := h
  refine ⟨hi, ?_, ?_⟩
  · rw [Nat.add_mul, List.length_append, List.length_append]
    have : (if i = 0 then [] else [(46 : Int)]).length ≤ 1 := by split <;> simp
    omega
  · rw [h3, drop_at hi, decide_eq_false (by omega : ¬ i + 1 = 0)]
    show xs ++ ((if decide (i = 0) = true then [] else [46]) ++ uniP zs[i] ++ joinU false (zs.drop (i + 1))) = _
    by_cases h0 : i = 0
    · simp [h0]
    · simp [h0]
theorem UniAt.fin {zs : List ByteArray} {R xs : List Int} {i : Nat} (h : UniAt zs R xs i) (hi : ¬ i < zs.length) : R = xs := by
  obtain ⟨h1, h2, h3⟩ := h
  rw [h3, List.drop_eq_nil_of_le (by omega)]
  simp [joinU]
end Go.Proofs.Ytkpkfcoljccimaa
/- Names that were told are told again (plain): a label. -/
namespace Go.Proofs.Ytkpkfcoljccimaa
set_option linter.unusedVariables false
/-- A piece of a mapped name. -/
def Good (p : List Int) : Prop := ∀ c ∈ p, kindOf c = 1 ∧ c ≠ 46
theorem kind_isS {c : Int} (h : kindOf c = 1) : isS c = true := by
  rcases Bool.eq_false_or_eq_true (isS c) with g | g
  · exact g
  · have : kindOf c = 4 := kind_barred (by unfold barred; rw [g]; rfl)
    rw [this] at h; cases h
theorem Good.all {p : List Int} (h : Good p) : p.all isS = true := List.all_eq_true.2 fun c hc => kind_isS (h c hc).1
theorem kind_tell : (List.range 128).all (fun n => !(n == 45 || (decide (48 ≤ n) && decide (n ≤ 57)) || (decide (97 ≤ n) && decide (n ≤ 122))) || (kindOf (n : Int) == 1)) = true := by decide +kernel
theorem kind_digit {n : Nat} (h : n = 45 ∨ (48 ≤ n ∧ n ≤ 57) ∨ (97 ≤ n ∧ n ≤ 122)) : kindOf (n : Int) = 1 := by
  have h1 := List.all_eq_true.1 kind_tell n (List.mem_range.2 (by omega))
  have h2 : (n == 45 || (decide (48 ≤ n) && decide (n ≤ 57)) || (decide (97 ≤ n) && decide (n ≤ 122))) = true := by
    rcases h with h | h | h
    · simp [h]
    · simp [h.1, h.2]
    · simp [h.1, h.2]
  rw [h2] at h1
  simpa using h1
/-- Signs below 80 are their own bytes. -/
theorem enc_low {c : Int} (h0 : 0 ≤ c) (h1 : c ≤ 127) : encN c.toNat = [b8 c.toNat] := by unfold encN; rw [if_pos (by omega)]
theorem fix_low {c : Int} (h0 : 0 ≤ c) (h1 : c ≤ 127) : fix c = c := by unfold fix; rw [if_pos (by rw [isS_iff]; omega)]
theorem text_ascii : ∀ {p : List Int}, asciiB p = true → byteInts (textL p) = p
  | [], _ => rfl
  | c :: p, h => by
    unfold asciiB at h
    rw [List.all_cons, Bool.and_eq_true] at h
    have hc := of_decide_eq_true h.1
    have ih := text_ascii (p := p) h.2
    show byteInts (encL ((c :: p).map fix)) = _
    have e : encL ((c :: p).map fix) = b8 c.toNat :: textL p := by
      rw [List.map_cons, fix_low hc.1 hc.2]
      show (encN c.toNat) ++ _ = _
      rw [enc_low hc.1 hc.2]; rfl
    rw [e]
    show ((b8 c.toNat).toNat : Int) :: byteInts (textL p) = _
    rw [ih, b8_nat _ (by omega)]
    congr 1
    omega
theorem bytes_ascii {b : List UInt8} (h : ∀ c ∈ b, c.toNat < 128) : asciiB (byteInts b) = true := by
  unfold asciiB byteInts
  rw [List.all_map, List.all_eq_true]
  intro c hc
  have := h c hc
  simp
  omega
theorem text_bytes : ∀ {b : List UInt8}, (∀ c ∈ b, c.toNat < 128) → textL (byteInts b) = b
  | [], _ => rfl
  | c :: b, h => by
    have hc := h c List.mem_cons_self
    have ih := text_bytes (b := b) (fun x hx => h x (List.mem_cons_of_mem _ hx))
    show encL ((((c.toNat : Int)) :: byteInts b).map fix) = _
    rw [List.map_cons, fix_low (by omega) (by omega)]
    show encN ((c.toNat : Int)).toNat ++ textL (byteInts b) = _
    rw [enc_low (by omega) (by omega), ih, Int.toNat_natCast]
    show b8 c.toNat :: b = _
    rw [b8_eq rfl]
/-- What a label's text is made of. -/
def Told (b : List UInt8) : Prop := (∀ c ∈ b, c.toNat < 128) ∧ Good (byteInts b)
theorem told_ascii {p : List Int} (hp : Good p) (ha : asciiB p = true) : Told (textL p) := by
  have he := text_ascii ha
  refine ⟨fun c hc => ?_, by rw [he]; exact hp⟩
  have : (c.toNat : Int) ∈ byteInts (textL p) := List.mem_map.2 ⟨c, hc, rfl⟩
  rw [he] at this
  have h := of_decide_eq_true (List.all_eq_true.1 ha _ this)
  omega
theorem told_puny {p : List Int} (hp : Good p) : Told ([120, 110, 45, 45] ++ enc (nats p)) := by
  have key : ∀ c ∈ [120, 110, 45, 45] ++ enc (nats p), c.toNat < 128 ∧ kindOf (c.toNat : Int) = 1 ∧ (c.toNat : Int) ≠ 46 := by
    intro c hc
    rcases List.mem_append.1 hc with h | h
    · have hq : c.toNat = 45 ∨ (48 ≤ c.toNat ∧ c.toNat ≤ 57) ∨ (97 ≤ c.toNat ∧ c.toNat ≤ 122) := by
        simp at h
        rcases h with rfl | rfl | rfl <;> decide
      exact ⟨by omega, kind_digit hq, by omega⟩
    · unfold enc at h
      rcases List.mem_append.1 h with h | h
      · rcases List.mem_append.1 h with h | h
        · have hl : c.toNat ∈ (low (nats p)).map UInt8.toNat := List.mem_map_of_mem h
          rw [low_nat] at hl
          obtain ⟨h1, h2⟩ := List.mem_filter.1 hl
          have h2 : c.toNat < 128 := by simpa using h2
          obtain ⟨x, hx, hxe⟩ := List.mem_map.1 h1
          have hk := hp x hx
          have : ((c.toNat : Nat) : Int) = x := by rw [← hxe]; exact isS_nat (kind_isS hk.1)
          rw [this]
          exact ⟨h2, hk.1, hk.2⟩
        · split at h
          · cases h
          · rw [List.mem_singleton.1 h]
            exact ⟨by decide, kind_digit (.inl rfl), by decide⟩
      · obtain ⟨d, hd, rfl⟩ := List.mem_map.1 h
        have hq := (letter_ne d (encD_digits _ _ _ _ _ _ _ d hd)).2
        exact ⟨by omega, kind_digit (.inr (by omega)), by omega⟩
  refine ⟨fun c hc => (key c hc).1, fun x hx => ?_⟩
  obtain ⟨c, hc, rfl⟩ := List.mem_map.1 hx
  exact (key c hc).2
/-- A label that was told is told again, just so. -/
theorem lab_again {p : List Int} {s : ByteArray} (hp : Good p) (h : labR p = (s, 0)) (hs : s.size ≤ 4000) : Told (bytesOf s) ∧ labR (byteInts (bytesOf s)) = (s, 0) := by
  cases ha : asciiB p with
  | true =>
    have hs2 : s = textB p := by
      cases hm : markB (textL p) with
      | false => rw [labR_plain ha hm] at h; injection h with h1 h2; exact h1.symm
      | true =>
        rw [labR_back ha hm] at h
        split at h
        · injection h with h1 h2; exact h1.symm
        · exact absurd (show (4 : Int) = 0 from congrArg Prod.snd h) (by decide)
    have hb : bytesOf s = textL p := by rw [hs2]; rfl
    rw [hb, text_ascii ha]
    exact ⟨told_ascii hp ha, h⟩
  | false =>
    have hall := hp.all
    cases hm : markB (textL p) with
    | true => rw [labR_mark ha hm] at h; exact absurd (show (4 : Int) = 0 from congrArg Prod.snd h) (by decide)
    | false =>
      have he : (encR p).2 = 0 := by
        rcases Classical.em ((encR p).2 = 0) with g | g
        · exact g
        · rw [labR_bad ha hm g] at h; exact absurd (congrArg Prod.snd h) g
      rw [labR_high ha hm he] at h
      injection h with h1 h2
      have hl : ¬ 256 < p.length := fun g => by rw [encR_long g] at he; exact absurd he (by decide)
      have hen : encR p = (strOf (enc (nats p)), 0) := encR_ok hl hall
      have hben : bytesOf (encR p).1 = enc (nats p) := by rw [hen]; rfl
      rw [hben] at h1
      have hb : bytesOf s = [120, 110, 45, 45] ++ enc (nats p) := by rw [← h1]; rfl
      have ht := told_puny hp
      have hsz : (enc (nats p)).length + 4 ≤ 4000 := by rw [← bytesOf_len, hb] at hs; simp at hs; omega
      rw [hb]
      refine ⟨ht, ?_⟩
      have hti := text_bytes ht.1
      have hmk : markB (textL (byteInts ([120, 110, 45, 45] ++ enc (nats p)))) = true := by rw [hti]; rfl
      rw [labR_back (bytes_ascii ht.1) hmk]
      have hdr : (textL (byteInts ([120, 110, 45, 45] ++ enc (nats p)))).drop 4 = enc (nats p) := by rw [hti]; rfl
      rw [hdr]
      have hdec : decR (strOf (enc (nats p))) = (nats p, 0) := decR_some (by rw [strOf_size]; omega) (dec_enc_puny _ (by simp [nats]; omega) (fun c hc => (nats_le hall c hc).1))
      have hnm : ints (nats p) = p := nats_map hall
      have hok : backOk (strOf (enc (nats p))) = true := by
        refine backOk_yes ?_ ?_ ?_ ?_ ?_ ?_
        · rw [hdec]
        · rw [hdec, hnm]; exact ha
        · rw [hdec, hnm]; exact hm
        · rw [hdec, hnm]; intro c hc; rw [kind_alike]; exact (hp c hc).1
        · rw [hdec, hnm]; exact he
        · rw [hdec, hnm, hben]; exact beq_self_eq_true _
      rw [if_pos hok, ← h1]
      unfold textB
      rw [hti]
end Go.Proofs.Ytkpkfcoljccimaa
/- Names that were told are told again (plain): a name. -/
namespace Go.Proofs.Ytkpkfcoljccimaa
set_option linter.unusedVariables false
/-- The pieces between points. -/
def goI : List Int → List Int → List (List Int)
  | cur, [] => [cur]
  | cur, c :: r => if c = 46 then cur :: goI [] r else goI (cur ++ [c]) r
def joinA : List UInt8 → Bool → List (List Int) → ByteArray × Int
  | acc, first, [] => finA acc
  | acc, first, p :: ps => if (labR p).2 = 0 then joinA (acc ++ dotB first ++ bytesOf (labR p).1) false ps else (strOf [], (labR p).2)
theorem goA_pieces : ∀ (r : List Int) (acc : List UInt8) (first : Bool) (cur : List Int), goA acc first cur r = joinA acc first (goI cur r)
  | [], acc, first, cur => rfl
  | c :: r, acc, first, cur => by
    unfold goA goI
    split
    · show _ = if (labR cur).2 = 0 then joinA _ false (goI [] r) else _
      rw [goA_pieces r]
    · exact goA_pieces r acc first (cur ++ [c])
/-- Labels with points between. -/
def joinL : Bool → List (List UInt8) → List UInt8
  | first, [] => []
  | first, b :: bs => dotB first ++ b ++ joinL false bs
theorem joinL_cons (first : Bool) (b : List UInt8) (bs : List (List UInt8)) : joinL first (b :: bs) = dotB first ++ b ++ joinL false bs := rfl
theorem joinA_ok : ∀ (ps : List (List Int)) (acc : List UInt8) (first : Bool), (∀ p ∈ ps, (labR p).2 = 0) → joinA acc first ps = finA (acc ++ joinL first (ps.map fun p => bytesOf (labR p).1))
  | [], acc, first, _ => by simp [joinA, joinL]
  | p :: ps, acc, first, h => by
    unfold joinA
    rw [if_pos (h p List.mem_cons_self), joinA_ok ps _ false (fun q hq => h q (List.mem_cons_of_mem _ hq))]
    simp [joinL]
theorem joinA_inv : ∀ (ps : List (List Int)) (acc : List UInt8) (first : Bool) (s : ByteArray), joinA acc first ps = (s, 0) → ∀ p ∈ ps, (labR p).2 = 0
  | [], acc, first, s, _ => by intro p hp; cases hp
  | q :: ps, acc, first, s, h => by
    unfold joinA at h
    split at h
    · intro p hp
      rcases List.mem_cons.1 hp with rfl | hp
      · assumption
      · exact joinA_inv ps _ false s h p hp
    · rename_i hn
      exact absurd (congrArg Prod.snd h) hn
theorem goI_mem : ∀ (r cur p : List Int), p ∈ goI cur r → ∀ c ∈ p, c ∈ cur ∨ (c ∈ r ∧ c ≠ 46)
  | [], cur, p, h => by
    intro c hc
    simp [goI] at h
    subst h
    exact .inl hc
  | x :: r, cur, p, h => by
    unfold goI at h
    intro c hc
    split at h
    · rcases List.mem_cons.1 h with rfl | h
      · exact .inl hc
      · rcases goI_mem r [] p h c hc with g | g
        · cases g
        · exact .inr ⟨List.mem_cons_of_mem _ g.1, g.2⟩
    · rename_i hx
      rcases goI_mem r (cur ++ [x]) p h c hc with g | g
      · rcases List.mem_append.1 g with g | g
        · exact .inl g
        · rw [List.mem_singleton.1 g]; exact .inr ⟨List.mem_cons_self, hx⟩
      · exact .inr ⟨List.mem_cons_of_mem _ g.1, g.2⟩
theorem goI_good {m : List Int} (h : ∀ c ∈ m, kindOf c = 1) : ∀ p ∈ goI [] m, Good p := by
  intro p hp c hc
  rcases goI_mem m [] p hp c hc with g | g
  · cases g
  · exact ⟨h c g.1, g.2⟩
theorem goI_some : ∀ (r cur : List Int), goI cur r ≠ []
  | [], cur => by simp [goI]
  | x :: r, cur => by
    unfold goI
    split
    · simp
    · exact goI_some r _
/-- The pieces of what was joined are what was joined. -/
theorem goI_piece : ∀ (b cur r : List Int), (∀ c ∈ b, c ≠ 46) → goI cur (b ++ r) = goI (cur ++ b) r
  | [], cur, r, _ => by simp
  | x :: b, cur, r, h => by
    show (if x = 46 then _ else goI (cur ++ [x]) (b ++ r)) = _
    rw [if_neg (h x List.mem_cons_self), goI_piece b _ r (fun c hc => h c (List.mem_cons_of_mem _ hc))]
    simp
theorem goI_join : ∀ (bs : List (List UInt8)) (b : List UInt8), (∀ x ∈ b :: bs, ∀ c ∈ byteInts x, c ≠ 46) → goI [] (byteInts (b ++ joinL false bs)) = (b :: bs).map byteInts
  | [], b, h => by
    show goI [] (byteInts (b ++ [])) = [byteInts b]
    rw [List.append_nil]
    have := goI_piece (byteInts b) [] [] (h b List.mem_cons_self)
    rw [List.append_nil] at this
    rw [this]; rfl
  | d :: bs, b, h => by
    have e : byteInts (b ++ joinL false (d :: bs)) = byteInts b ++ 46 :: byteInts (d ++ joinL false bs) := by
      rw [joinL_cons]
      unfold byteInts dotB
      simp
    rw [e, goI_piece (byteInts b) [] _ (h b List.mem_cons_self), List.nil_append]
    show (if (46 : Int) = 46 then byteInts b :: goI [] _ else _) = _
    rw [if_pos rfl, goI_join bs d (fun x hx => h x (List.mem_cons_of_mem _ hx))]
    rfl
theorem join_told : ∀ (bs : List (List UInt8)) (first : Bool), (∀ b ∈ bs, Told b) → ∀ c ∈ joinL first bs, c.toNat < 128 ∧ kindOf (c.toNat : Int) = 1
  | [], first, _ => by intro c hc; cases hc
  | b :: bs, first, h => by
    intro c hc
    unfold joinL at hc
    rcases List.mem_append.1 hc with hc | hc
    · rcases List.mem_append.1 hc with hc | hc
      · unfold dotB at hc
        split at hc
        · cases hc
        · rw [List.mem_singleton.1 hc]
          exact ⟨by decide, by decide +kernel⟩
      · have ht := h b List.mem_cons_self
        exact ⟨ht.1 c hc, (ht.2 _ (List.mem_map.2 ⟨c, hc, rfl⟩)).1⟩
    · exact join_told bs false (fun x hx => h x (List.mem_cons_of_mem _ hx)) c hc
theorem joinL_len : ∀ (bs : List (List UInt8)) (first : Bool) (b : List UInt8), b ∈ bs → b.length ≤ (joinL first bs).length
  | x :: bs, first, b, h => by
    unfold joinL
    rw [List.length_append, List.length_append]
    rcases List.mem_cons.1 h with rfl | h
    · omega
    · have := joinL_len bs false b h; omega
/-- A name that was told, taken apart. -/
theorem asc_inv {l : List Int} {s : ByteArray} (h : ascR l = (s, 0)) : ∃ ps : List (List Int), ps ≠ [] ∧ (∀ p ∈ ps, Good p ∧ (labR p).2 = 0 ∧ (labR p).1.size ≤ 253) ∧ bytesOf s = joinL true (ps.map fun p => bytesOf (labR p).1) ∧ s.size ≤ 253 := by
  unfold ascR at h
  split at h
  · exact absurd (show (11 : Int) = 0 from congrArg Prod.snd h) (by decide)
  · split at h
    · rw [goA_pieces] at h
      have hl := joinA_inv _ _ _ _ h
      rw [joinA_ok _ _ _ hl, List.nil_append] at h
      unfold finA at h
      split at h
      · exact absurd (show (3 : Int) = 0 from congrArg Prod.snd h) (by decide)
      · rename_i hle
        have hs : strOf (joinL true ((goI [] (mapOf l)).map fun p => bytesOf (labR p).1)) = s := congrArg Prod.fst h
        have hb : bytesOf s = joinL true ((goI [] (mapOf l)).map fun p => bytesOf (labR p).1) := by rw [← hs]; rfl
        refine ⟨goI [] (mapOf l), goI_some _ _, fun p hp => ⟨goI_good (map_valid l) p hp, hl p hp, ?_⟩, hb, by rw [← bytesOf_len, hb]; omega⟩
        have := joinL_len ((goI [] (mapOf l)).map fun p => bytesOf (labR p).1) true (bytesOf (labR p).1) (List.mem_map.2 ⟨p, hp, rfl⟩)
        rw [bytesOf_len] at this
        omega
    · exact absurd (show (4 : Int) = 0 from congrArg Prod.snd h) (by decide)
theorem lab_pair {p : List Int} (h : (labR p).2 = 0) : labR p = ((labR p).1, 0) := by rw [← h]
/-- A name that was told is told again, just so. -/
theorem asc_again {l : List Int} {s : ByteArray} (h : ascR l = (s, 0)) : (∀ c ∈ bytesOf s, c.toNat < 128 ∧ kindOf (c.toNat : Int) = 1) ∧ ascR (byteInts (bytesOf s)) = (s, 0) := by
  obtain ⟨ps, hne, hp, hb, hsz⟩ := asc_inv h
  have hag : ∀ p ∈ ps, Told (bytesOf (labR p).1) ∧ labR (byteInts (bytesOf (labR p).1)) = ((labR p).1, 0) := fun p hq => lab_again (hp p hq).1 (lab_pair (hp p hq).2.1) (by have := (hp p hq).2.2; omega)
  have hkind : ∀ c ∈ bytesOf s, c.toNat < 128 ∧ kindOf (c.toNat : Int) = 1 := by
    rw [hb]
    refine join_told _ _ ?_
    intro b hbm
    obtain ⟨p, hq, rfl⟩ := List.mem_map.1 hbm
    exact (hag p hq).1
  refine ⟨hkind, ?_⟩
  have hv : ∀ c ∈ byteInts (bytesOf s), kindOf c = 1 := by
    intro c hc
    obtain ⟨x, hx, rfl⟩ := List.mem_map.1 hc
    exact (hkind x hx).2
  unfold ascR
  rw [if_neg (by unfold byteInts; rw [List.length_map, bytesOf_len]; omega), if_pos (fine_all (fine_of_valid hv)), map_again hv, goA_pieces]
  cases ps with
  | nil => exact absurd rfl hne
  | cons p ps =>
    have hpieces : goI [] (byteInts (bytesOf s)) = (p :: ps).map fun p => byteInts (bytesOf (labR p).1) := by
      rw [hb]
      show goI [] (byteInts (dotB true ++ bytesOf (labR p).1 ++ joinL false (ps.map fun p => bytesOf (labR p).1))) = _
      have e : dotB true ++ bytesOf (labR p).1 = bytesOf (labR p).1 := rfl
      rw [e, goI_join (ps.map fun p => bytesOf (labR p).1) (bytesOf (labR p).1) ?_]
      · simp
      · intro x hx c hc
        have : ∃ q ∈ p :: ps, bytesOf (labR q).1 = x := by
          rcases List.mem_cons.1 hx with rfl | hx
          · exact ⟨p, List.mem_cons_self, rfl⟩
          · obtain ⟨q, hq, rfl⟩ := List.mem_map.1 hx
            exact ⟨q, List.mem_cons_of_mem _ hq, rfl⟩
        obtain ⟨q, hq, rfl⟩ := this
        exact ((hag q hq).1.2 c hc).2
    rw [hpieces, joinA_ok _ _ _ ?_, List.nil_append]
    · have e : ((p :: ps).map fun p => byteInts (bytesOf (labR p).1)).map (fun p => bytesOf (labR p).1) = (p :: ps).map fun p => bytesOf (labR p).1 := by
        rw [List.map_map]
        refine List.map_congr_left fun q hq => ?_
        simp only [Function.comp]
        rw [(hag q hq).2]
      rw [e, ← hb]
      unfold finA
      rw [if_neg (by rw [bytesOf_len]; omega)]
      rfl
    · intro q hq
      obtain ⟨r, hr, rfl⟩ := List.mem_map.1 hq
      rw [(hag r hr).2]
end Go.Proofs.Ytkpkfcoljccimaa
/- The program's plain, valid; the library's HasPrefix and CutPrefix at xn--. -/
namespace Go.Proofs.Ytkpkfcoljccimaa
open Go.RowKit
set_option linter.unusedVariables false
theorem iplain_calls (v : Value) (l : List Int) (w : World) (hv : IRow w v l) :
    Calls Try.prog 13 #[v] w fun e w' => e = .returned (.bool (asciiB l)) ∧ w' = w := by
  have HV := hid hv
  obtain ⟨a, cap, rfl, h1, h2, h3⟩ := hv
  unfold maxLen at h2
  have l2 : (l.length : Int) ≤ (cap : Int) := by omega
  have l3 : (cap : Int) ≤ 9223372036854775807 := by omega
  obtain ⟨R, hR⟩ : ∃ R, R = asciiB l := ⟨_, rfl⟩
  rw [← hR]
  have HR := hid hR
  clear h1 h2 h3 hR
  go_enter Try.func13, Try.ntmps13
  go_wp2_with fail
  go_loop [7] (fun vi => ∃ k : Nat, k ≤ l.length ∧ vi = .int .i64 (k : Int) ∧ asciiB (l.take k) = true) (fun vi => l.length - (intOf vi).toNat)
  case atStart => exact ⟨0, Nat.zero_le _, rfl, rfl⟩
  case round =>
    obtain ⟨k, hk, rfl, hall⟩ := hrel
    have HA := hid hall
    have k0 : (0 : Int) ≤ (k : Int) := by omega
    clear hall
    by_cases hlt : k < l.length
    · obtain ⟨b, off, rfl, hck⟩ := HV.out.open (Below.refl _ _) k hlt
      have k1 : (k : Int) < (l.length : Int) := by omega
      have HS := hid (ascii_snoc l k hlt)
      have HN := hid (ascii_not l k hlt)
      have HK := hid hlt
      generalize l[k] = c at *
      clear hlt hk
      by_cases h0 : c < 0
      · have HF : Hid (R = false) := by show _ = _; rw [HR.out]; exact HN.out (by omega)
        clear HS HN
        go_wp2_with fail
        go_ret
        exact ⟨by rw [HF.out]; rfl, rfl⟩
      · by_cases h1 : 128 ≤ c
        · have HF : Hid (R = false) := by show _ = _; rw [HR.out]; exact HN.out (by omega)
          clear HS HN
          go_wp2_with fail
          go_ret
          exact ⟨by rw [HF.out]; rfl, rfl⟩
        · have HX : Hid (asciiB (l.take (k + 1)) = true) := by show _ = _; rw [HS.out, HA.out, decide_eq_true (by omega)]; rfl
          clear HS HN
          go_wp2_with fail
          go_round
          case rel => exact ⟨k + 1, HK.out, by go_num, HX.out⟩
          case measure => have := HK.out; simp [intOf]; omega
    · have hkl : k = l.length := by omega
      have HF : Hid (R = true) := by show _ = _; rw [HR.out, ← HA.out, hkl, List.take_length]
      have g : ¬ (k : Int) < (l.length : Int) := by omega
      clear hlt hk hkl
      go_wp2_with fail
      go_ret
      exact ⟨by rw [HF.out]; rfl, rfl⟩
def validB (l : List Int) : Bool := l.all fun c => kindOf c == 1
theorem valid_take (l : List Int) (k : Nat) (h : k < l.length) (h1 : ∀ c ∈ l.take k, kindOf c = 1) (h2 : kindOf l[k] = 1) : ∀ c ∈ l.take (k + 1), kindOf c = 1 := by
  intro c hc
  rw [List.take_succ_eq_append_getElem h] at hc
  rcases List.mem_append.1 hc with g | g
  · exact h1 c g
  · rw [List.mem_singleton.1 g]; exact h2
theorem valid_not (l : List Int) (k : Nat) (h : k < l.length) (hn : kindOf l[k] ≠ 1) : validB l = false := by
  unfold validB
  rw [List.all_eq_false]
  exact ⟨l[k], List.getElem_mem h, by simpa using hn⟩
theorem ivalid_calls (v : Value) (l : List Int) (w : World) (hv : IRow w v l) :
    Calls Try.prog 28 #[v] w fun e w' => e = .returned (.bool (validB l)) ∧ Below w.heap.size w w' := by
  have HV := hid hv
  obtain ⟨a, cap, rfl, h1, h2, h3⟩ := hv
  unfold maxLen at h2
  have l2 : (l.length : Int) ≤ (cap : Int) := by omega
  have l3 : (cap : Int) ≤ 9223372036854775807 := by omega
  obtain ⟨R, hR⟩ : ∃ R, R = validB l := ⟨_, rfl⟩
  rw [← hR]
  have HR := hid hR
  clear h1 h2 h3 hR
  go_enter Try.func28, Try.ntmps28
  go_wp2_with fail
  go_loopw [7] (fun vi wr => ∃ k : Nat, k ≤ l.length ∧ vi = .int .i64 (k : Int) ∧ Below w.heap.size w wr ∧ ∀ c ∈ l.take k, kindOf c = 1) (fun vi _ => l.length - (intOf vi).toNat)
  case atStart => exact ⟨0, Nat.zero_le _, rfl, Below.refl _ _, by simp⟩
  case round =>
    obtain ⟨k, hk, rfl, hb, hall⟩ := hrel
    have HA := hid hall
    have HB := hid hb
    have k0 : (0 : Int) ≤ (k : Int) := by omega
    clear hall hb
    by_cases hlt : k < l.length
    · obtain ⟨b, off, rfl, hck⟩ := HV.out.open HB.out k hlt
      have k1 : (k : Int) < (l.length : Int) := by omega
      have HS := hid (valid_take l k hlt HA.out)
      have HN := hid (valid_not l k hlt)
      have HK := hid hlt
      generalize l[k] = c at *
      clear hlt hk
      go_wp2_with fail
      refine (kind_calls c _).mono ?_
      rintro e w8 ⟨rfl, hb8⟩
      have HB8 := hid (below_trans HB.out hb8)
      clear hb8
      generalize kindOf c = kc at *
      by_cases h1 : kc = 1
      · subst h1
        have HX := hid (HS.out rfl)
        go_wp2_with fail
        go_roundw
        case rel => exact ⟨k + 1, HK.out, by go_num, HB8.out, HX.out⟩
        case measure => have := HK.out; simp [intOf]; omega
      · have HX : Hid (R = false) := by show _ = _; rw [HR.out]; exact HN.out h1
        have q1 : (kc == 1) = false := by rw [beq_eq_false_iff_ne]; exact h1
        have q2 : (kc != 1) = true := by rw [bne_iff_ne]; exact h1
        clear h1
        go_wp2_with fail
        go_ret
        exact ⟨by rw [HX.out]; rfl, HB8.out⟩
    · have hkl : k = l.length := by omega
      have HF : Hid (R = true) := by
        show _ = _
        rw [HR.out]
        unfold validB
        rw [List.all_eq_true]
        intro c hc
        have h := HA.out
        rw [hkl, List.take_length] at h
        simpa using h c hc
      have g : ¬ (k : Int) < (l.length : Int) := by omega
      clear hlt hk hkl
      go_wp2_with fail
      go_ret
      exact ⟨by rw [HF.out]; rfl, HB.out⟩
theorem hasp_calls (s : ByteArray) (w : World) (hs : s.size ≤ maxLen) :
    Calls Try.prog 24 #[.string s, .string ⟨#[120, 110, 45, 45]⟩] w fun e w' => e = .returned (.bool (markB (bytesOf s))) ∧ w' = w := by
  unfold maxLen at hs
  have s1 : (s.size : Int) ≤ 9223372036854775807 := by omega
  have hbl := bytesOf_len s
  obtain ⟨R, hR⟩ : ∃ R, R = markB (bytesOf s) := ⟨_, rfl⟩
  rw [← hR]
  by_cases h4 : 4 ≤ s.size
  · have e1 : (s.extract 0 4).toList = (bytesOf s).take 4 := by rw [ByteArray.toList_eq]; exact extract_bytes s 4 h4
    have e2 : ((bytesOf s).take 4 == [120, 110, 45, 45]) = R := hR.symm
    have g : (4 : Int) ≤ (s.size : Int) := by omega
    generalize (bytesOf s).take 4 = T at *
    clear hR hbl h4 hs
    go_enter Try.func24, Try.ntmps24
    go_wp2
    go_ret
    exact ⟨rfl, rfl⟩
  · have g : ¬ (4 : Int) ≤ (s.size : Int) := by omega
    have HF : Hid (R = false) := by
      show _ = _
      rw [hR]
      unfold markB
      rw [beq_eq_false_iff_ne]
      intro h
      have := congrArg List.length h
      rw [List.length_take] at this
      simp at this
      omega
    clear hR hbl h4 hs
    go_enter Try.func24, Try.ntmps24
    go_wp2
    go_ret
    exact ⟨by rw [HF.out]; rfl, rfl⟩
theorem mark_size {s : ByteArray} (h : markB (bytesOf s) = true) : 4 ≤ s.size := by
  unfold markB at h
  have h2 := congrArg List.length (beq_iff_eq.1 h)
  rw [List.length_take, bytesOf_len] at h2
  simp at h2
  omega
def cutR (s : ByteArray) : ByteArray × Bool := if markB (bytesOf s) = true then (strOf ((bytesOf s).drop 4), true) else (s, false)
theorem cutp_calls (s : ByteArray) (w : World) (hs : s.size ≤ maxLen) :
    Calls Try.prog 16 #[.string s, .string ⟨#[120, 110, 45, 45]⟩] w fun e w' => e = .returned (.tuple #[.string (cutR s).1, .bool (cutR s).2]) ∧ w' = w := by
  have HS := hid hs
  unfold maxLen at hs
  have s1 : (s.size : Int) ≤ 9223372036854775807 := by omega
  have hbl := bytesOf_len s
  obtain ⟨R, hR⟩ : ∃ R, R = cutR s := ⟨_, rfl⟩
  rw [← hR]
  by_cases h4 : 4 ≤ s.size
  · have e1 : (s.extract 0 4).toList = (bytesOf s).take 4 := by rw [ByteArray.toList_eq]; exact extract_bytes s 4 h4
    have hcut : s.extract 4 s.size = strOf ((bytesOf s).drop 4) := str_drop (bytesOf s) 4 (by omega)
    have g : (4 : Int) ≤ (s.size : Int) := by omega
    cases hm : markB (bytesOf s) with
    | true =>
      have e2 : ((bytesOf s).take 4 == [120, 110, 45, 45]) = true := hm
      have HX : Hid (R = (strOf ((bytesOf s).drop 4), true)) := by show _ = _; rw [hR]; unfold cutR; rw [if_pos hm]
      generalize strOf ((bytesOf s).drop 4) = t at *
      generalize (bytesOf s).take 4 = T at *
      clear hR hbl h4 hs hm
      go_enter Try.func16, Try.ntmps16
      go_wp2
      go_ret2
      exact ⟨by rw [HX.out]; rfl, rfl⟩
    | false =>
      have e2 : ((bytesOf s).take 4 == [120, 110, 45, 45]) = false := hm
      have HX : Hid (R = (s, false)) := by show _ = _; rw [hR]; unfold cutR; rw [if_neg (by rw [hm]; decide)]
      generalize strOf ((bytesOf s).drop 4) = t at *
      generalize (bytesOf s).take 4 = T at *
      clear hR hbl h4 hs hm hcut
      go_enter Try.func16, Try.ntmps16
      go_wp2
      go_ret2
      exact ⟨by rw [HX.out]; rfl, rfl⟩
  · have g : ¬ (4 : Int) ≤ (s.size : Int) := by omega
    have HX : Hid (R = (s, false)) := by
      show _ = _
      rw [hR]
      unfold cutR
      rw [if_neg (fun h => h4 (mark_size h))]
    clear hR hbl h4 hs
    go_enter Try.func16, Try.ntmps16
    go_wp2
    go_ret2
    exact ⟨by rw [HX.out]; rfl, rfl⟩
end Go.Proofs.Ytkpkfcoljccimaa
/- The program's byPuny, writtenByPuny, Label. -/
namespace Go.Proofs.Ytkpkfcoljccimaa
open Go.RowKit
set_option linter.unusedVariables false
/-- A label that is not plain. -/
def byR (l : List Int) : ByteArray × Int := if markB (textL l) = true then (strOf [], 4) else if (encR l).2 = 0 then (strOf ([120, 110, 45, 45] ++ bytesOf (encR l).1), 0) else (strOf [], (encR l).2)
theorem labR_by {l : List Int} (h : asciiB l = false) : labR l = byR l := by unfold labR byR; rw [if_pos h]
theorem text_size {l : List Int} (hl : l.length ≤ 100000) : (strOf (textL l)).size ≤ maxLen := by
  have := text_len l
  rw [strOf_size]; unfold maxLen; omega
set_option maxHeartbeats 1000000 in
theorem bypuny_calls (v : Value) (l : List Int) (w : World) (hv : IRow w v l) (hl : l.length ≤ 100000) :
    Calls Try.prog 14 #[v] w fun e w' => e = .returned (.tuple #[.string (byR l).1, .int .i64 (byR l).2]) ∧ Below w.heap.size w w' := by
  have HV := hid hv
  have HTx := hid (text_calls v l w hv hl)
  have HM := hid (fun w' => hasp_calls (strOf (textL l)) w' (text_size hl))
  have HTB : Hid (bytesOf (strOf (textL l)) = textL l) := rfl
  rw [HTB.out] at HM
  obtain ⟨R, hR⟩ : ∃ R, R = byR l := ⟨_, rfl⟩
  rw [← hR]
  have HR := hid hR
  clear hv hl hR
  cases hmk : markB (textL l) with
  | true =>
    have HX : Hid (R = (strOf [], 4)) := by show _ = _; rw [HR.out]; unfold byR; rw [if_pos hmk]
    rw [hmk] at HM
    clear hmk
    generalize strOf (textL l) = s at *
    go_enter Try.func14, Try.ntmps14
    go_wp2_with fail
    refine HTx.out.mono ?_
    rintro e w1 ⟨rfl, hb1⟩
    have HB1 := hid hb1
    clear hb1
    go_wp2_with fail
    refine (HM.out _).mono ?_
    rintro e w3 ⟨rfl, rfl⟩
    go_wp2_with fail
    go_ret2
    exact ⟨by rw [HX.out]; rfl, HB1.out⟩
  | false =>
    have HXB : Hid ((encR l).2 ≠ 0 → R = (strOf [], (encR l).2)) := fun h => by rw [HR.out]; unfold byR; rw [if_neg (by rw [hmk]; decide), if_neg h]
    have HXG : Hid ((encR l).2 = 0 → R = (strOf ([120, 110, 45, 45] ++ bytesOf (encR l).1), 0)) := fun h => by rw [HR.out]; unfold byR; rw [if_neg (by rw [hmk]; decide), if_pos h]
    rw [hmk] at HM
    have HPu := hid (fun w' hv => pencode_calls v l w' hv)
    have hps := encR_size l
    clear hmk
    generalize strOf (textL l) = s at *
    generalize encR l = X at *
    obtain ⟨p, n⟩ := X
    simp only at HXB HXG HPu hps
    have p1 : (p.size : Int) ≤ 10000000 := by omega
    have hj := str_join p
    clear hps
    by_cases hn : n = 0
    · subst hn
      have HX := hid (HXG.out rfl)
      rw [← hj] at HX
      clear HXB HXG hj
      go_enter Try.func14, Try.ntmps14
      go_wp2_with fail
      refine HTx.out.mono ?_
      rintro e w1 ⟨rfl, hb1⟩
      have HB1 := hid hb1
      have HV1 := hid (HV.out.below hb1)
      clear hb1
      go_wp2_with fail
      refine (HM.out _).mono ?_
      rintro e w3 ⟨rfl, rfl⟩
      go_wp2_with fail
      refine (HPu.out _ HV1.out).mono ?_
      rintro e w4 ⟨rfl, hb4⟩
      have HB4 := hid (below_trans HB1.out hb4)
      clear hb4
      go_wp2_with fail
      go_ret2
      exact ⟨by rw [HX.out]; rfl, HB4.out⟩
    · have HX := hid (HXB.out hn)
      have n1 : (n == 0) = false := by rw [beq_eq_false_iff_ne]; exact hn
      have n2 : (n != 0) = true := by rw [bne_iff_ne]; exact hn
      clear HXB HXG hn hj
      go_enter Try.func14, Try.ntmps14
      go_wp2_with fail
      refine HTx.out.mono ?_
      rintro e w1 ⟨rfl, hb1⟩
      have HB1 := hid hb1
      have HV1 := hid (HV.out.below hb1)
      clear hb1
      go_wp2_with fail
      refine (HM.out _).mono ?_
      rintro e w3 ⟨rfl, rfl⟩
      go_wp2_with fail
      refine (HPu.out _ HV1.out).mono ?_
      rintro e w4 ⟨rfl, hb4⟩
      have HB4 := hid (below_trans HB1.out hb4)
      clear hb4
      go_wp2_with fail
      go_ret2
      exact ⟨by rw [HX.out]; rfl, HB4.out⟩
theorem byR_back {u : List Int} {t : ByteArray} : ((byR u).2 = 0 ∧ (bytesOf (byR u).1 == [120, 110, 45, 45] ++ bytesOf t) = true) ↔ (markB (textL u) = false ∧ (encR u).2 = 0 ∧ (bytesOf (encR u).1 == bytesOf t) = true) := by
  unfold byR
  cases hm : markB (textL u) with
  | true => simp
  | false =>
    rw [if_neg (by decide)]
    by_cases he : (encR u).2 = 0
    · rw [if_pos he]
      simp [he, bytesOf, strOf]
    · rw [if_neg he]
      simp [he]
theorem backOk_by {t : ByteArray} (h1 : (decR t).2 = 0) (h2 : asciiB (ints (decR t).1) = false) (h3 : validB (ints (decR t).1) = true) : backOk t = (decide ((byR (ints (decR t).1)).2 = 0) && (bytesOf (byR (ints (decR t).1)).1 == [120, 110, 45, 45] ++ bytesOf t)) := by
  have hk : ((ints (decR t).1).all fun c => kindR c == 1) = true := by
    unfold validB at h3
    rw [List.all_eq_true] at h3 ⊢
    intro c hc
    rw [kind_alike]
    exact h3 c hc
  have hb := byR_back (u := ints (decR t).1) (t := t)
  unfold backOk
  rw [h1, h2, hk]
  cases hr : (decide ((byR (ints (decR t).1)).2 = 0) && (bytesOf (byR (ints (decR t).1)).1 == [120, 110, 45, 45] ++ bytesOf t)) with
  | true =>
    rw [Bool.and_eq_true, decide_eq_true_eq] at hr
    obtain ⟨g1, g2, g3⟩ := hb.1 hr
    rw [g1, g2, g3]; rfl
  | false =>
    have hn : ¬ (markB (textL (ints (decR t).1)) = false ∧ (encR (ints (decR t).1)).2 = 0 ∧ (bytesOf (encR (ints (decR t).1)).1 == bytesOf t) = true) := by
      intro h
      have g := hb.2 h
      rw [← decide_eq_true_eq (p := (byR (ints (decR t).1)).2 = 0), ← Bool.and_eq_true, hr] at g
      cases g
    cases h4 : markB (textL (ints (decR t).1)) with
    | true => rfl
    | false =>
      cases h5 : (encR (ints (decR t).1)).2 == 0 with
      | false => rfl
      | true =>
        cases h6 : (bytesOf (encR (ints (decR t).1)).1 == bytesOf t) with
        | false => rfl
        | true => exact absurd ⟨h4, beq_iff_eq.1 h5, h6⟩ hn
theorem backOk_valid {t : ByteArray} (h : validB (ints (decR t).1) = false) : backOk t = false := by
  unfold validB at h
  rw [List.all_eq_false] at h
  obtain ⟨c, hc, hk⟩ := h
  exact backOk_kind hc (by rw [kind_alike]; simpa using hk)
set_option maxRecDepth 20000 in
set_option maxHeartbeats 4000000 in
theorem written_calls (t : ByteArray) (w : World) (ht : t.size ≤ maxLen) (ht2 : t.size ≤ 1000000000) :
    Calls Try.prog 17 #[.string t] w fun e w' => e = .returned (.bool (backOk t)) ∧ Below w.heap.size w w' := by
  have t1 : (t.size : Int) ≤ 1000000000 := by omega
  have HD := hid (fun w' => pdecode_calls t w' ht)
  have HU256 := hid (decR_most t)
  have HB0 := hid (backOk_err (t := t))
  have HB1 := hid (backOk_ascii (t := t))
  have HB2 := hid (backOk_valid (t := t))
  have HB3 := hid (backOk_by (t := t))
  have hj := str_join t
  have etj := toList_bytes (strOf ([120, 110, 45, 45] ++ bytesOf t))
  have etb : bytesOf (strOf ([120, 110, 45, 45] ++ bytesOf t)) = [120, 110, 45, 45] ++ bytesOf t := rfl
  obtain ⟨R, hR⟩ : ∃ R, R = backOk t := ⟨_, rfl⟩
  rw [← hR] at HB0 HB1 HB2 HB3
  rw [← hR]
  obtain ⟨mt, hmt⟩ : ∃ mt, mt = strOf ([120, 110, 45, 45] ++ bytesOf t) := ⟨_, rfl⟩
  rw [← hmt] at hj etj etb
  rw [← etb] at HB3
  clear ht ht2 hR hmt etb
  generalize decR t = D at *
  obtain ⟨du, dn⟩ := D
  simp only at HB0 HB1 HB2 HB3 HU256
  unfold DecPost at HD
  simp only at HD
  generalize ints du = u at *
  have HBy := hid (fun vu w' hvu => bypuny_calls vu u w' hvu (by have := HU256.out; omega))
  by_cases hdn : dn = 0
  · subst hdn
    cases hua : asciiB u with
    | true =>
      have HX : Hid (R = false) := hid (HB1.out hua)
      have HUA := hid hua
      clear hua HB0 HB1 HB2 HB3
      go_enter Try.func17, Try.ntmps17
      go_wp2_with fail
      refine (HD.out _).mono ?_
      rintro e w1 ⟨⟨vu, rfl, hvu⟩, hb1⟩
      have HB1 := hid hb1
      have HU1 := hid hvu
      clear hb1 hvu
      go_wp2_with fail
      refine (iplain_calls _ u _ HU1.out).mono ?_
      rintro e w2 ⟨rfl, rfl⟩
      rw [HUA.out]
      go_wp2_with fail
      go_ret
      exact ⟨by rw [HX.out]; rfl, HB1.out⟩
    | false =>
      have HUA := hid hua
      cases hva : validB u with
      | false =>
        have HX : Hid (R = false) := hid (HB2.out hva)
        have HVA := hid hva
        clear hua hva HB0 HB1 HB2 HB3
        go_enter Try.func17, Try.ntmps17
        go_wp2_with fail
        refine (HD.out _).mono ?_
        rintro e w1 ⟨⟨vu, rfl, hvu⟩, hb1⟩
        have HB1 := hid hb1
        have HU1 := hid hvu
        clear hb1 hvu
        go_wp2_with fail
        refine (iplain_calls _ u _ HU1.out).mono ?_
        rintro e w2 ⟨rfl, rfl⟩
        rw [HUA.out]
        go_wp2_with fail
        refine (ivalid_calls _ u _ HU1.out).mono ?_
        rintro e w3 ⟨rfl, hb3⟩
        have HB3 := hid (below_trans HB1.out hb3)
        rw [HVA.out]
        clear hb3
        go_wp2_with fail
        go_ret
        exact ⟨by rw [HX.out]; rfl, HB3.out⟩
      | true =>
        have HX := hid (HB3.out (by first | rfl | trivial) hua hva)
        have HVA := hid hva
        clear hua hva HB0 HB1 HB2 HB3
        generalize byR u = Y at *
        obtain ⟨p, n⟩ := Y
        simp only at HX HBy
        have ep := toList_bytes p
        by_cases hn : n = 0
        · subst hn
          obtain ⟨q, hq⟩ : ∃ q, q = (bytesOf p == bytesOf mt) := ⟨_, rfl⟩
          have HQ : Hid (R = q) := by show _ = _; rw [HX.out, hq]; simp
          have hq2 := hq.symm
          clear HX hq
          go_enter Try.func17, Try.ntmps17
          go_wp2_with fail
          refine (HD.out _).mono ?_
          rintro e w1 ⟨⟨vu, rfl, hvu⟩, hb1⟩
          have HB1 := hid hb1
          have HU1 := hid hvu
          clear hb1 hvu
          go_wp2_with fail
          refine (iplain_calls _ u _ HU1.out).mono ?_
          rintro e w2 ⟨rfl, rfl⟩
          rw [HUA.out]
          go_wp2_with fail
          refine (ivalid_calls _ u _ HU1.out).mono ?_
          rintro e w3 ⟨rfl, hb3⟩
          have HB3 := hid (below_trans HB1.out hb3)
          have HU3 := hid (HU1.out.below hb3)
          rw [HVA.out]
          clear hb3
          go_wp2_with fail
          refine (HBy.out _ _ HU3.out).mono ?_
          rintro e w4 ⟨rfl, hb4⟩
          have HB4 := hid (below_trans HB3.out hb4)
          clear hb4
          go_wp2_with fail
          go_ret
          exact ⟨by rw [HQ.out]; rfl, HB4.out⟩
        · have HQ : Hid (R = false) := by show _ = _; rw [HX.out, decide_eq_false hn]; rfl
          have n1 : (n == 0) = false := by rw [beq_eq_false_iff_ne]; exact hn
          have n2 : (n != 0) = true := by rw [bne_iff_ne]; exact hn
          clear HX hn
          go_enter Try.func17, Try.ntmps17
          go_wp2_with fail
          refine (HD.out _).mono ?_
          rintro e w1 ⟨⟨vu, rfl, hvu⟩, hb1⟩
          have HB1 := hid hb1
          have HU1 := hid hvu
          clear hb1 hvu
          go_wp2_with fail
          refine (iplain_calls _ u _ HU1.out).mono ?_
          rintro e w2 ⟨rfl, rfl⟩
          rw [HUA.out]
          go_wp2_with fail
          refine (ivalid_calls _ u _ HU1.out).mono ?_
          rintro e w3 ⟨rfl, hb3⟩
          have HB3 := hid (below_trans HB1.out hb3)
          have HU3 := hid (HU1.out.below hb3)
          rw [HVA.out]
          clear hb3
          go_wp2_with fail
          refine (HBy.out _ _ HU3.out).mono ?_
          rintro e w4 ⟨rfl, hb4⟩
          have HB4 := hid (below_trans HB3.out hb4)
          clear hb4
          go_wp2_with fail
          go_ret
          exact ⟨by rw [HQ.out]; rfl, HB4.out⟩
  · have HX : Hid (R = false) := hid (HB0.out hdn)
    have q1 : (dn == 0) = false := by rw [beq_eq_false_iff_ne]; exact hdn
    have q2 : (dn != 0) = true := by rw [bne_iff_ne]; exact hdn
    clear hdn HB0 HB1 HB2 HB3
    go_enter Try.func17, Try.ntmps17
    go_wp2_with fail
    refine (HD.out _).mono ?_
    rintro e w1 ⟨⟨vu, rfl, hvu⟩, hb1⟩
    have HB1 := hid hb1
    clear hb1 hvu
    go_wp2_with fail
    go_ret
    exact ⟨by rw [HX.out]; rfl, HB1.out⟩
set_option maxRecDepth 20000 in
set_option maxHeartbeats 4000000 in
theorem label_calls (v : Value) (l : List Int) (w : World) (hv : IRow w v l) (hl : l.length ≤ 100000) :
    Calls Try.prog 7 #[v] w fun e w' => e = .returned (.tuple #[.string (labR l).1, .int .i64 (labR l).2]) ∧ Below w.heap.size w w' := by
  have HV := hid hv
  have HBy := hid (bypuny_calls v l w hv hl)
  have HTx := hid (text_calls v l w hv hl)
  have HCu := hid (fun w' => cutp_calls (strOf (textL l)) w' (text_size hl))
  have htl := text_len l
  obtain ⟨R, hR⟩ : ∃ R, R = labR l := ⟨_, rfl⟩
  rw [← hR]
  have HR := hid hR
  clear hR
  cases hasc : asciiB l with
  | false =>
    have HX : Hid (R = byR l) := by show _ = _; rw [HR.out, labR_by hasc]
    have HA := hid hasc
    generalize byR l = Y at *
    obtain ⟨p, n⟩ := Y
    simp only at HBy
    clear hasc hv hl htl HTx HCu
    go_enter Try.func7, Try.ntmps7
    go_wp2_with fail
    refine (iplain_calls _ l _ HV.out).mono ?_
    rintro e w2 ⟨rfl, rfl⟩
    rw [HA.out]
    go_wp2_with fail
    refine HBy.out.mono ?_
    rintro e w3 ⟨rfl, hb3⟩
    have HB3 := hid hb3
    clear hb3
    go_wp2_with fail
    go_ret2
    exact ⟨by rw [HX.out]; rfl, HB3.out⟩
  | true =>
    have HA := hid hasc
    cases hmk : markB (textL l) with
    | false =>
      have HX : Hid (R = (textB l, 0)) := by show _ = _; rw [HR.out, labR_plain hasc hmk]
      have hcut : cutR (strOf (textL l)) = (strOf (textL l), false) := by unfold cutR; rw [if_neg]; show ¬ markB (textL l) = true; rw [hmk]; decide
      rw [hcut] at HCu
      have hTB : strOf (textL l) = textB l := rfl
      rw [hTB] at HCu HTx
      clear hasc hv hl htl hmk hcut HBy hTB
      generalize textB l = s at *
      go_enter Try.func7, Try.ntmps7
      go_wp2_with fail
      refine (iplain_calls _ l _ HV.out).mono ?_
      rintro e w2 ⟨rfl, rfl⟩
      rw [HA.out]
      go_wp2_with fail
      refine HTx.out.mono ?_
      rintro e w3 ⟨rfl, hb3⟩
      have HB3 := hid hb3
      clear hb3
      go_wp2_with fail
      refine (HCu.out _).mono ?_
      rintro e w4 ⟨rfl, rfl⟩
      go_wp2_with fail
      go_ret2
      exact ⟨by rw [HX.out]; rfl, HB3.out⟩
    | true =>
      have HRR : Hid (R = if backOk (strOf ((textL l).drop 4)) = true then (textB l, 0) else (strOf [], 4)) := by show _ = _; rw [HR.out, labR_back hasc hmk]
      have hcut : cutR (strOf (textL l)) = (strOf ((textL l).drop 4), true) := by
        show (if markB (textL l) = true then (strOf ((textL l).drop 4), true) else _) = _
        rw [if_pos hmk]
      rw [hcut] at HCu
      have hts : (strOf ((textL l).drop 4)).size ≤ 400000 := by rw [strOf_size, List.length_drop]; omega
      have HWr := hid (fun w' => written_calls (strOf ((textL l).drop 4)) w' (by unfold maxLen; omega) (by omega))
      have hTB : strOf (textL l) = textB l := rfl
      rw [hTB] at HCu HTx
      clear hasc hv hl htl hmk hcut HBy hTB hts
      generalize strOf ((textL l).drop 4) = t at *
      generalize textB l = s at *
      cases hok : backOk t with
      | true =>
        have HX : Hid (R = (s, 0)) := by show _ = _; rw [HRR.out, if_pos hok]
        rw [hok] at HWr
        clear hok HRR
        go_enter Try.func7, Try.ntmps7
        go_wp2_with fail
        refine (iplain_calls _ l _ HV.out).mono ?_
        rintro e w2 ⟨rfl, rfl⟩
        rw [HA.out]
        go_wp2_with fail
        refine HTx.out.mono ?_
        rintro e w3 ⟨rfl, hb3⟩
        have HB3 := hid hb3
        clear hb3
        go_wp2_with fail
        refine (HCu.out _).mono ?_
        rintro e w4 ⟨rfl, rfl⟩
        go_wp2_with fail
        refine (HWr.out _).mono ?_
        rintro e w5 ⟨rfl, hb5⟩
        have HB5 := hid (below_trans HB3.out hb5)
        clear hb5
        go_wp2_with fail
        go_ret2
        exact ⟨by rw [HX.out]; rfl, HB5.out⟩
      | false =>
        have HX : Hid (R = (strOf [], 4)) := by show _ = _; rw [HRR.out, if_neg (by rw [hok]; decide)]
        rw [hok] at HWr
        clear hok HRR
        go_enter Try.func7, Try.ntmps7
        go_wp2_with fail
        refine (iplain_calls _ l _ HV.out).mono ?_
        rintro e w2 ⟨rfl, rfl⟩
        rw [HA.out]
        go_wp2_with fail
        refine HTx.out.mono ?_
        rintro e w3 ⟨rfl, hb3⟩
        have HB3 := hid hb3
        clear hb3
        go_wp2_with fail
        refine (HCu.out _).mono ?_
        rintro e w4 ⟨rfl, rfl⟩
        go_wp2_with fail
        refine (HWr.out _).mono ?_
        rintro e w5 ⟨rfl, hb5⟩
        have HB5 := hid (below_trans HB3.out hb5)
        clear hb5
        go_wp2_with fail
        go_ret2
        exact ⟨by rw [HX.out]; rfl, HB5.out⟩
end Go.Proofs.Ytkpkfcoljccimaa
/- The program's pieces: a list cut at a sign. -/
namespace Go.Proofs.Ytkpkfcoljccimaa
open Go.RowKit
set_option linter.unusedVariables false
theorem info_ints : (Try.prog.info? 24).map (fun i => (i.zero, i.size, i.bytes)) = some (some (.slice none 0 0), 1, 24) := by kernel_rfl
/-- append, for elements of up to 32 bytes. -/
theorem append_wide {α : Type} {f : α → Value} {t ts : TypeId} {z : Value} {bytes : Nat} (hf : ∀ x, (f x).oneCell' = true) (hu : Try.prog.underlying ts = some (.slice t)) (hin : (Try.prog.info? t).map (fun i => (i.zero, i.size, i.bytes)) = some (some z, 1, bytes)) (hz : z.cells.size = 1) (hby : bytes ≤ 32)
    {w : World} {base : Nat} {v : Value} {xs : List α} (hown : Own f t w base v xs) {x : Value} {l : List α} (hx : Row f w x l) (hlen : xs.length + l.length ≤ 1000000) (hbase : base ≤ w.heap.size) :
    ∃ v' w', (Builtin.append_ #[ts, ts] ts #[v, x]).run Try.prog w = .ok v' w' ∧ Own f t w' base v' (xs ++ l) ∧ w.grownBy w' v.ownBlock := by
  obtain ⟨i0, hi, hz0, hz1, hz2⟩ := info_parts hin
  have hx0 := hx
  obtain ⟨a, cap, rfl, h1, h2, h3⟩ := hx
  cases a with
  | none =>
    have hl : l = [] := by
      rcases List.eq_nil_or_concat l with h | ⟨l', c, h⟩
      · exact h
      · obtain ⟨b, off, he, _⟩ := h3 (by rw [h]; simp)
        cases he
    subst hl
    refine ⟨v, w, ?_, by rw [List.append_nil]; exact hown, ⟨rfl, rfl, rfl, Nat.le_refl _, fun _ _ _ => rfl⟩⟩
    rcases hown.2 with ⟨rfl, hl⟩ | ⟨g, cap', cur, rfl, _, _, hnc, _⟩
    · simp [Builtin.append_, run_underlying hu, sizeOf, typeInfo, hi, Builtin.lenOf, Builtin.firstCells]
    · simp [Builtin.append_, run_underlying hu, sizeOf, typeInfo, hi, Builtin.lenOf, Builtin.firstCells, hnc, storeCells]
  | some a =>
    obtain ⟨_, hc⟩ := Row.cells hx0
    obtain ⟨v', w', hr, ho, hg, _⟩ := run_append_own (P := Try.prog) w base ts ts t i0 z 1 bytes hu hi hz0 hz1 hz2 hz (by decide) v xs.length (xs.map f) hown a l.length cap (l.map f) (by simp) hc
      (by intro u hu; obtain ⟨y, _, rfl⟩ := List.mem_map.1 hu; exact hf y) (by unfold maxLen; omega) (Nat.le_trans (Nat.mul_le_mul hlen hby) (by decide)) hbase
    refine ⟨v', w', hr, ?_, hg⟩
    unfold Own
    rw [List.length_append, List.map_append]
    exact ho
/-- A slice of ints as an element. -/
def fx (x : Option Addr × Nat × Nat) : Value := .slice x.1 x.2.1 x.2.2
abbrev XOwn (w : World) (base : Nat) (v : Value) (l : List (Option Addr × Nat × Nat)) : Prop := Own fx 24 w base v l
theorem appendP_run {w : World} {base : Nat} {v : Value} {xs : List (Option Addr × Nat × Nat)} (hown : XOwn w base v xs) {x : Value} {l : List (Option Addr × Nat × Nat)} (hx : Row fx w x l) (hlen : xs.length + l.length ≤ 1000000) (hbase : base ≤ w.heap.size) :
    ∃ v' w', (Builtin.append_ #[22, 22] 22 #[v, x]).run Try.prog w = .ok v' w' ∧ XOwn w' base v' (xs ++ l) ∧ w.grownBy w' v.ownBlock :=
  append_wide (fun _ => rfl) Try.underlying22 info_ints rfl (by decide) hown hx hlen hbase
/-- Each reads as its piece. -/
def Each (w : World) : List (Option Addr × Nat × Nat) → List (List Int) → Prop
  | [], [] => True
  | x :: xs, p :: ps => IRow w (fx x) p ∧ Each w xs ps
  | _, _ => False
theorem Each.len {w : World} : ∀ {xs : List (Option Addr × Nat × Nat)} {ps : List (List Int)}, Each w xs ps → xs.length = ps.length
  | [], [], _ => rfl
  | x :: xs, p :: ps, h => by rw [List.length_cons, List.length_cons, Each.len h.2]
  | [], p :: ps, h => h.elim
  | x :: xs, [], h => h.elim
theorem Each.snoc {w : World} {x : Option Addr × Nat × Nat} {p : List Int} (hx : IRow w (fx x) p) : ∀ {xs : List (Option Addr × Nat × Nat)} {ps : List (List Int)}, Each w xs ps → Each w (xs ++ [x]) (ps ++ [p])
  | [], [], _ => ⟨hx, trivial⟩
  | y :: xs, q :: ps, h => ⟨h.1, Each.snoc hx h.2⟩
  | [], p :: ps, h => h.elim
  | x :: xs, [], h => h.elim
theorem Each.get {w : World} : ∀ {xs : List (Option Addr × Nat × Nat)} {ps : List (List Int)}, Each w xs ps → ∀ (i : Nat) (h : i < xs.length) (h' : i < ps.length), IRow w (fx xs[i]) ps[i]
  | x :: xs, p :: ps, h, 0, _, _ => h.1
  | x :: xs, p :: ps, h, i + 1, h1, h2 => Each.get h.2 i (by simpa using h1) (by simpa using h2)
  | [], [], _, i, h1, _ => absurd h1 (by simp)
  | [], p :: ps, h, _, _, _ => h.elim
  | x :: xs, [], h, _, _, _ => h.elim
theorem Each.below {w w' : World} (hb : Below w.heap.size w w') : ∀ {xs : List (Option Addr × Nat × Nat)} {ps : List (List Int)}, Each w xs ps → Each w' xs ps
  | [], [], _ => trivial
  | x :: xs, p :: ps, h => ⟨h.1.below hb, Each.below hb h.2⟩
  | [], p :: ps, h => h.elim
  | x :: xs, [], h => h.elim
/-- v is a list of lists that reads as ps. -/
def PRow (w : World) (v : Value) (ps : List (List Int)) : Prop := ∃ xs, Row fx w v xs ∧ Each w xs ps
theorem PRow.below {w w' : World} {v : Value} {ps : List (List Int)} (h : PRow w v ps) (hb : Below w.heap.size w w') : PRow w' v ps := by
  obtain ⟨xs, h1, h2⟩ := h
  exact ⟨xs, h1.below hb, h2.below hb⟩
theorem goI_none : ∀ (l cur : List Int), (∀ x ∈ l, x ≠ 46) → goI cur l = [cur ++ l]
  | [], cur, _ => by simp [goI]
  | x :: l, cur, h => by
    unfold goI
    rw [if_neg (h x List.mem_cons_self), goI_none l (cur ++ [x]) (fun y hy => h y (List.mem_cons_of_mem _ hy))]
    simp
theorem goI_at : ∀ (l cur : List Int) (k : Nat) (hk : k < l.length), l[k] = 46 → (∀ x ∈ l.take k, x ≠ 46) → goI cur l = (cur ++ l.take k) :: goI [] (l.drop (k + 1))
  | x :: l, cur, 0, hk, hc, _ => by
    have hx : x = 46 := by simpa using hc
    show (if x = 46 then cur :: goI [] l else _) = _
    rw [if_pos hx]
    simp
  | x :: l, cur, k + 1, hk, hc, hn => by
    show (if x = 46 then _ else goI (cur ++ [x]) l) = _
    rw [if_neg (hn x (by simp)), goI_at l (cur ++ [x]) k (by simpa using hk) (by simpa using hc) (fun y hy => hn y (by simp; exact .inr hy))]
    simp
/-- The place of the first c, if there is one. -/
def IdxPost (l : List Int) (c : Int) (e : Ending) : Prop := (e = .returned (.int .i64 (-1)) ∧ ∀ x ∈ l, x ≠ c) ∨ ∃ k : Nat, ∃ h : k < l.length, e = .returned (.int .i64 (k : Int)) ∧ l[k] = c ∧ ∀ x ∈ l.take k, x ≠ c
set_option maxHeartbeats 1000000 in
theorem index_calls (v : Value) (l : List Int) (c : Int) (w : World) (hv : IRow w v l) :
    Calls Try.prog 30 #[v, .int .i64 c] w fun e w' => IdxPost l c e ∧ w' = w := by
  have HV := hid hv
  obtain ⟨a, cap, rfl, h1, h2, h3⟩ := hv
  unfold maxLen at h2
  have l2 : (l.length : Int) ≤ (cap : Int) := by omega
  have l3 : (cap : Int) ≤ 9223372036854775807 := by omega
  clear h1 h2 h3
  go_enter Try.func30, Try.ntmps30
  go_wp2_with fail
  go_loop [8] (fun vi => ∃ k : Nat, k ≤ l.length ∧ vi = .int .i64 (k : Int) ∧ ∀ x ∈ l.take k, x ≠ c) (fun vi => l.length - (intOf vi).toNat)
  case atStart => exact ⟨0, Nat.zero_le _, rfl, by simp⟩
  case round =>
    obtain ⟨k, hk, rfl, hall⟩ := hrel
    have HA := hid hall
    have k0 : (0 : Int) ≤ (k : Int) := by omega
    clear hall
    by_cases hlt : k < l.length
    · obtain ⟨b, off, rfl, hck⟩ := HV.out.open (Below.refl _ _) k hlt
      have k1 : (k : Int) < (l.length : Int) := by omega
      have HK := hid hlt
      have HN : Hid (l[k] ≠ c → ∀ x ∈ l.take (k + 1), x ≠ c) := by
        intro h x hx
        rw [List.take_succ_eq_append_getElem hlt] at hx
        rcases List.mem_append.1 hx with g | g
        · exact HA.out x g
        · rw [List.mem_singleton.1 g]; exact h
      have HY : Hid (l[k] = c → IdxPost l c (.returned (.int .i64 (k : Int)))) := fun h => .inr ⟨k, hlt, rfl, h, HA.out⟩
      generalize l[k] = d at *
      clear hlt hk
      by_cases hcd : d = c
      · subst hcd
        go_wp2_with fail
        go_ret
        exact ⟨HY.out (by first | rfl | trivial), rfl⟩
      · have HX := hid (HN.out hcd)
        have q1 : (c == d) = false := by rw [beq_eq_false_iff_ne]; exact fun h => hcd h.symm
        clear hcd
        go_wp2_with fail
        go_round
        case rel => exact ⟨k + 1, HK.out, by go_num, HX.out⟩
        case measure => have := HK.out; simp [intOf]; omega
    · have hkl : k = l.length := by omega
      have HF : Hid (IdxPost l c (.returned (.int .i64 (-1)))) := .inl ⟨rfl, by
        have h := HA.out
        rw [hkl, List.take_length] at h
        exact h⟩
      have g : ¬ (k : Int) < (l.length : Int) := by omega
      clear hlt hk hkl
      go_wp2_with fail
      go_ret
      exact ⟨HF.out, rfl⟩
end Go.Proofs.Ytkpkfcoljccimaa
/- The program's pieces: the walk. -/
namespace Go.Proofs.Ytkpkfcoljccimaa
open Go.RowKit
set_option linter.unusedVariables false
def lenS : Value → Nat
  | .slice _ n _ => n
  | _ => 0
theorem rowI_take {w : World} {a : Option Addr} {n C : Nat} {l : List Int} (h : IRow w (.slice a n C) l) (k : Nat) (hk : k ≤ l.length) : IRow w (.slice a k C) (l.take k) := by
  obtain ⟨a', cap', he, h1, h2, h3⟩ := h
  injection he with e1 e2 e3
  subst e1 e2 e3
  have hln : (l.take k).length = k := by rw [List.length_take]; omega
  refine ⟨_, _, by rw [hln], by omega, by omega, fun hne => ?_⟩
  obtain ⟨b, off, he, hb, hc⟩ := h3 (by intro e; subst e; simp at hne)
  exact ⟨b, off, he, hb, fun j hj => by rw [hc j (by omega)]; simp⟩
theorem rowI_drop {w : World} {b off n C : Nat} {l : List Int} (h : IRow w (.slice (some ⟨b, off, none⟩) n C) l) (k : Nat) (hk : k < l.length) : IRow w (.slice (some ⟨b, off + k, none⟩) (l.length - k) (C - k)) (l.drop k) := by
  obtain ⟨b', off', he, _, _, _, hr⟩ := Row.from h k hk
  injection he with he
  injection he with e1 e2
  subst e1 e2
  exact hr
/-- How far the list is cut. -/
def CutAt (w : World) (m : List Int) (vl : Value) (r : List Int) (xs : List (Option Addr × Nat × Nat)) : Prop :=
  ∃ ps, IRow w vl r ∧ Each w xs ps ∧ goI [] m = ps ++ goI [] r ∧ xs.length + r.length ≤ m.length
theorem CutAt.start {w : World} {m : List Int} {v : Value} (h : IRow w v m) : CutAt w m v m [] := ⟨[], h, trivial, rfl, by simp⟩
theorem CutAt.row {w : World} {m r : List Int} {v : Value} {xs : List (Option Addr × Nat × Nat)} (h : CutAt w m v r xs) : IRow w v r := by obtain ⟨ps, h1, _⟩ := h; exact h1
theorem CutAt.len {w : World} {m r : List Int} {v : Value} {xs : List (Option Addr × Nat × Nat)} (h : CutAt w m v r xs) : xs.length + r.length ≤ m.length := by obtain ⟨ps, _, _, _, h4⟩ := h; exact h4
theorem CutAt.last {w : World} {m r : List Int} {a : Option Addr} {n C : Nat} {xs : List (Option Addr × Nat × Nat)} (h : CutAt w m (.slice a n C) r xs) (hn : ∀ x ∈ r, x ≠ 46) : Each w (xs ++ [(a, n, C)]) (goI [] m) := by
  obtain ⟨ps, h1, h2, h3, _⟩ := h
  rw [h3, goI_none r [] hn]
  exact Each.snoc h1 h2
theorem CutAt.next {w : World} {m r : List Int} {a : Option Addr} {n C : Nat} {xs : List (Option Addr × Nat × Nat)} (h : CutAt w m (.slice a n C) r xs) (k : Nat) (hk : k < r.length) (hc : r[k] = 46) (hn : ∀ x ∈ r.take k, x ≠ 46) {v' : Value} (hv : IRow w v' (r.drop (k + 1))) : CutAt w m v' (r.drop (k + 1)) (xs ++ [(a, k, C)]) := by
  obtain ⟨ps, h1, h2, h3, h4⟩ := h
  refine ⟨ps ++ [r.take k], hv, Each.snoc (rowI_take h1 k (by omega)) h2, ?_, ?_⟩
  · rw [h3, goI_at r [] k hk hc hn]; simp
  · rw [List.length_append, List.length_drop]; simp; omega
set_option maxHeartbeats 4000000 in
theorem pieces_calls (v : Value) (m : List Int) (w : World) (hv : IRow w v m) (hm : m.length ≤ 100000) :
    Calls Try.prog 19 #[v, .int .i64 46] w fun e w' => (∃ v', e = .returned v' ∧ PRow w' v' (goI [] m)) ∧ Below w.heap.size w w' := by
  have HS := hid (CutAt.start hv)
  have HM := hid hm
  clear hv hm
  go_enter Try.func19, Try.ntmps19
  go_wp2_with fail
  go_loopw [0, 5] (fun vl vo wr => ∃ r xs, CutAt w m vl r xs ∧ XOwn wr w.heap.size vo xs ∧ Below w.heap.size w wr) (fun vl _ _ => lenS vl)
  case atStart => exact ⟨m, [], HS.out, Own.nil _ _ _ _, Below.refl _ _⟩
  case round =>
    obtain ⟨r, xs, hc, ho, hb⟩ := hrel
    have HC := hid hc
    have HO := hid ho
    have HB := hid hb
    have HSz : Hid (w.heap.size ≤ wr.heap.size) := hb.size
    have hlen := hc.len
    have HV := hid (hc.row.below hb)
    obtain ⟨a, C, he, h1, h2, h3⟩ := hc.row
    subst he
    unfold maxLen at h2
    have l2 : (r.length : Int) ≤ (C : Int) := by omega
    have l3 : (C : Int) ≤ 9223372036854775807 := by omega
    have HL : Hid (xs.length + r.length ≤ 100000) := by show _ ≤ _; have := HM.out; omega
    have H2 := hid h2
    have H1 := hid h1
    clear hc ho hb hlen h1 h2
    go_wp2_with fail
    refine (index_calls _ r 46 _ HV.out).mono ?_
    rintro e w1 ⟨⟨rfl, hno⟩ | ⟨k, hk, rfl, hat, hno⟩, rfl⟩
    · have HE := hid (HC.out.last hno)
      obtain ⟨v4, w4, hr4, ho4, hg4⟩ := appendP_run (HO.out.alloc (.cells #[.slice a r.length C] 24)) (Row.lit fx w1 [(a, r.length, C)] 24 (0, 0) (by simp)) (by have := HL.out; simp; omega) (by have := HSz.out; simp; omega)
      have HB4 := hid ((HB.out.alloc HSz.out (.cells #[.slice a r.length C] 24)).grown hg4 (by have := HSz.out; simp; omega) (Own.lt HO.out))
      have HO4 := hid ho4
      clear hno ho4 hg4 h3
      go_wp2_with (at_builtin; go_must (refine wpList_append_run hr4 rfl _ _ rfl rfl rfl rfl ?_))
      go_ret
      exact ⟨⟨_, rfl, _, HO4.out.row, HE.out.below HB4.out⟩, HB4.out⟩
    · obtain ⟨b, off, rfl, hlt, _⟩ := h3 (by intro e; subst e; simp at hk)
      have HNx := hid (fun v' => HC.out.next k hk hat hno (v' := v'))
      have k0 : (0 : Int) ≤ (k : Int) := by omega
      have k1 : (k : Int) < (r.length : Int) := by omega
      have HK := hid hk
      obtain ⟨v4, w4, hr4, ho4, hg4⟩ := appendP_run (HO.out.alloc (.cells #[.slice (some ⟨b, off, none⟩) k C] 24)) (Row.lit fx w1 [(some ⟨b, off, none⟩, k, C)] 24 (0, 0) (by simp)) (by have := HL.out; simp; omega) (by have := HSz.out; simp; omega)
      have HB4 := hid ((HB.out.alloc HSz.out (.cells #[.slice (some ⟨b, off, none⟩) k C] 24)).grown hg4 (by have := HSz.out; simp; omega) (Own.lt HO.out))
      have HO4 := hid ho4
      have HR := hid HC.out.row
      clear hno ho4 hg4 hat hlt HV
      by_cases hlast : k + 1 < r.length
      · have HD := hid (HNx.out _ (rowI_drop HR.out (k + 1) hlast))
        have hq1 : (C = k + 1) = False := eq_false (by have := H1.out; omega)
        have hq2 : (k + 1 = C) = False := eq_false (by have := H1.out; omega)
        clear hk
        go_wp2_with (at_builtin; go_must (refine wpList_append_run hr4 rfl _ _ rfl rfl rfl rfl ?_))
        go_roundw
        case rel => exact ⟨_, _, HD.out, HO4.out, HB4.out⟩
        case measure => simp [lenS]; omega
      · have hke : k + 1 = r.length := by omega
        have HD := hid (fun A (C' : Nat) (hC : C' ≤ maxLen) => HNx.out (.slice A 0 C') (by rw [List.drop_eq_nil_of_le (by omega)]; exact rowI_nil w A C' hC))
        clear hk
        by_cases hcap : C = k + 1
        · have hq1 : (C = k + 1) = True := eq_true hcap
          have hq2 : (k + 1 = C) = True := eq_true hcap.symm
          have HCp := hid hcap
          clear hcap
          go_wp2_with (at_builtin; go_must (refine wpList_append_run hr4 rfl _ _ rfl rfl rfl rfl ?_))
          go_roundw
          case rel => exact ⟨_, _, HD.out _ _ (by have := H2.out; unfold maxLen; omega), HO4.out, HB4.out⟩
          case measure => simp [lenS]; omega
        · have hq1 : (C = k + 1) = False := eq_false hcap
          have hq2 : (k + 1 = C) = False := eq_false (fun e => hcap e.symm)
          go_wp2_with (at_builtin; go_must (refine wpList_append_run hr4 rfl _ _ rfl rfl rfl rfl ?_))
          go_roundw
          case rel => exact ⟨_, _, HD.out _ _ (by have := H2.out; unfold maxLen; omega), HO4.out, HB4.out⟩
          case measure => simp [lenS]; omega
end Go.Proofs.Ytkpkfcoljccimaa
/- A name's signs, told once more, are it (plain). -/
namespace Go.Proofs.Ytkpkfcoljccimaa
set_option linter.unusedVariables false
theorem insF_low : ∀ (f : Nat) (out : List Nat) (ds : List (Option Nat)) (s a b : Nat) (fl : Bool) (m : List Nat), 128 ≤ s → insF f out ds s a b fl = some m → ∀ c ∈ m, c ∈ out ∨ 128 ≤ c
  | 0, out, ds, s, a, b, fl, m, hs, h => by
    unfold insF at h
    split at h
    · injection h with h; subst h; exact fun c hc => .inl hc
    · cases h
  | f + 1, out, ds, s, a, b, fl, m, hs, h => by
    rw [insF_succ] at h
    split at h
    · injection h with h; subst h; exact fun c hc => .inl hc
    · split at h
      · cases h
      · cases hr : rd ds a 1 36 b with
        | none => rw [hr] at h; cases h
        | some x =>
          rw [hr] at h
          obtain ⟨to, rest⟩ := x
          simp only at h
          split at h
          · intro c hc
            rcases insF_low f _ _ _ _ _ _ m (Nat.le_trans hs (Nat.le_add_right _ _)) h c hc with g | g
            · rcases List.mem_append.1 g with g | g
              · exact .inl (List.mem_of_mem_take g)
              · rcases List.mem_cons.1 g with rfl | g
                · exact .inr (Nat.le_trans hs (Nat.le_add_right _ _))
                · exact .inl (List.mem_of_mem_drop g)
            · exact .inr g
          · cases h
theorem dec_low {t : ByteArray} {m : List Nat} (h : dec t = some m) : ∀ c ∈ m, c < 128 → ∃ x ∈ bytesOf t, x.toNat = c := by
  intro c hc hlt
  unfold dec at h
  split at h
  · rcases insF_low _ _ _ _ _ _ _ m (by decide) h c hc with g | g
    · cases g
    · omega
  · split at h
    · cases h
    · split at h
      · rcases insF_low _ _ _ _ _ _ _ m (by decide) h c hc with g | g
        · obtain ⟨x, hx, rfl⟩ := List.mem_map.1 g
          exact ⟨x, List.mem_of_mem_take hx, rfl⟩
        · omega
      · cases h
theorem decR_zero {t : ByteArray} (h : (decR t).2 = 0) : dec t = some (decR t).1 := by
  unfold decR at h ⊢
  split at h
  · exact absurd (show (11 : Int) = 0 from h) (by decide)
  · rename_i hl
    rw [if_neg hl]
    cases hd : dec t with
    | none => rw [hd] at h; exact absurd (show (4 : Int) = 0 from h) (by decide)
    | some m => rfl
/-- A told label's signs are told as it. -/
theorem uni_lab {b : List UInt8} (ht : Told b) (hl : labR (byteInts b) = (strOf b, 0)) : Good (uniP (strOf b)) ∧ labR (uniP (strOf b)) = (strOf b, 0) := by
  have hb : bytesOf (strOf b) = b := rfl
  have hti := text_bytes ht.1
  cases hm : markB b with
  | false =>
    rw [uniP_plain (by rw [hb]; exact hm), hb]
    exact ⟨ht.2, hl⟩
  | true =>
    rw [labR_back (bytes_ascii ht.1) (by rw [hti]; exact hm), hti] at hl
    have hok : backOk (strOf (b.drop 4)) = true := by
      split at hl
      · assumption
      · exact absurd (show (4 : Int) = 0 from congrArg Prod.snd hl) (by decide)
    unfold backOk at hok
    simp only [Bool.and_eq_true, beq_iff_eq, Bool.not_eq_true'] at hok
    obtain ⟨⟨⟨⟨⟨h1, h2⟩, h3⟩, h4⟩, h5⟩, h6⟩ := hok
    rw [uniP_dec (by rw [hb]; exact hm) (by rw [hb]; exact h1), hb]
    have hk : ∀ c ∈ ints (decR (strOf (b.drop 4))).1, kindOf c = 1 := fun c hc => by
      have := List.all_eq_true.1 h4 c hc
      rw [← kind_alike]; simpa using this
    refine ⟨fun c hc => ⟨hk c hc, ?_⟩, ?_⟩
    · intro e
      subst e
      obtain ⟨n, hn, hne⟩ := List.mem_map.1 hc
      have hn46 : n = 46 := by have : (n : Int) = 46 := hne; omega
      obtain ⟨x, hx, hxe⟩ := dec_low (decR_zero h1) n hn (by omega)
      have hxb : x ∈ b := List.mem_of_mem_drop hx
      exact (ht.2 _ (List.mem_map.2 ⟨x, hxb, rfl⟩)).2 (by omega)
    · rw [labR_high h2 h3 h5, h6]
      have htk : b.take 4 = [120, 110, 45, 45] := beq_iff_eq.1 hm
      have : [120, 110, 45, 45] ++ bytesOf (strOf (b.drop 4)) = b := by
        rw [← htk]
        exact List.take_append_drop 4 b
      rw [this]
theorem goS_piece (c : UInt8) : ∀ (b cur r : List UInt8), (∀ x ∈ b, x ≠ c) → goS c cur (b ++ r) = goS c (cur ++ b) r
  | [], cur, r, _ => by simp
  | x :: b, cur, r, h => by
    show (if x = c then _ else goS c (cur ++ [x]) (b ++ r)) = _
    rw [if_neg (h x List.mem_cons_self), goS_piece c b _ r (fun y hy => h y (List.mem_cons_of_mem _ hy))]
    simp
theorem goS_join : ∀ (bs : List (List UInt8)) (b : List UInt8), (∀ x ∈ b :: bs, ∀ c ∈ x, c ≠ 46) → goS 46 [] (b ++ joinL false bs) = b :: bs
  | [], b, h => by
    show goS 46 [] (b ++ []) = [b]
    rw [goS_piece 46 b [] [] (h b List.mem_cons_self)]; rfl
  | d :: bs, b, h => by
    have e : b ++ joinL false (d :: bs) = b ++ 46 :: (d ++ joinL false bs) := by rw [joinL_cons]; unfold dotB; simp
    rw [e, goS_piece 46 b [] _ (h b List.mem_cons_self), List.nil_append]
    show (if (46 : UInt8) = 46 then b :: goS 46 [] _ else _) = _
    rw [if_pos rfl, goS_join bs d (fun x hx => h x (List.mem_cons_of_mem _ hx))]
theorem joinU_cons (first : Bool) (p : ByteArray) (r : List ByteArray) : joinU first (p :: r) = (if first then [] else [46]) ++ uniP p ++ joinU false r := rfl
theorem goI_joinU : ∀ (ps : List ByteArray) (p : ByteArray), (∀ q ∈ p :: ps, ∀ c ∈ uniP q, c ≠ 46) → goI [] (uniP p ++ joinU false ps) = (p :: ps).map uniP
  | [], p, h => by
    show goI [] (uniP p ++ []) = [uniP p]
    rw [goI_piece (uniP p) [] [] (h p List.mem_cons_self)]; rfl
  | d :: ps, p, h => by
    have e : uniP p ++ joinU false (d :: ps) = uniP p ++ 46 :: (uniP d ++ joinU false ps) := by rw [joinU_cons]; simp
    rw [e, goI_piece (uniP p) [] _ (h p List.mem_cons_self), List.nil_append]
    show (if (46 : Int) = 46 then uniP p :: goI [] _ else _) = _
    rw [if_pos rfl, goI_joinU ps d (fun x hx => h x (List.mem_cons_of_mem _ hx))]
    rfl
theorem joinU_kind : ∀ (ps : List ByteArray) (first : Bool), (∀ p ∈ ps, Good (uniP p)) → ∀ c ∈ joinU first ps, kindOf c = 1
  | [], first, _ => by intro c hc; cases hc
  | p :: ps, first, h => by
    intro c hc
    rw [joinU_cons] at hc
    rcases List.mem_append.1 hc with hc | hc
    · rcases List.mem_append.1 hc with hc | hc
      · split at hc
        · cases hc
        · rw [List.mem_singleton.1 hc]; decide +kernel
      · exact (h p List.mem_cons_self c hc).1
    · exact joinU_kind ps false (fun x hx => h x (List.mem_cons_of_mem _ hx)) c hc
/-- A name's signs, told once more, are it. -/
theorem uni_again {l : List Int} {s : ByteArray} (h : ascR l = (s, 0)) (hu : (uniR s).length ≤ 256) : ascR (uniR s) = (s, 0) := by
  obtain ⟨ps, hne, hp, hb, hsz⟩ := asc_inv h
  have hag : ∀ p ∈ ps, Told (bytesOf (labR p).1) ∧ labR (byteInts (bytesOf (labR p).1)) = ((labR p).1, 0) := fun p hq => lab_again (hp p hq).1 (lab_pair (hp p hq).2.1) (by have := (hp p hq).2.2; omega)
  have hst : ∀ x : ByteArray, strOf (bytesOf x) = x := fun x => rfl
  have hul : ∀ p ∈ ps, Good (uniP (labR p).1) ∧ labR (uniP (labR p).1) = ((labR p).1, 0) := fun p hq => by
    have := uni_lab (hag p hq).1 (by rw [hst]; exact (hag p hq).2)
    rw [hst] at this
    exact this
  cases ps with
  | nil => exact absurd rfl hne
  | cons p ps =>
    have hsp : splitB 46 (bytesOf s) = (p :: ps).map fun q => (labR q).1 := by
      unfold splitB
      rw [hb]
      show (goS 46 [] (dotB true ++ bytesOf (labR p).1 ++ joinL false (ps.map fun q => bytesOf (labR q).1))).map strOf = _
      have e : dotB true ++ bytesOf (labR p).1 = bytesOf (labR p).1 := rfl
      rw [e, goS_join (ps.map fun q => bytesOf (labR q).1) (bytesOf (labR p).1) ?_]
      · simp [hst, Function.comp_def]
      · intro x hx c hc
        have : ∃ q ∈ p :: ps, bytesOf (labR q).1 = x := by
          rcases List.mem_cons.1 hx with rfl | hx
          · exact ⟨p, List.mem_cons_self, rfl⟩
          · obtain ⟨q, hq, rfl⟩ := List.mem_map.1 hx
            exact ⟨q, List.mem_cons_of_mem _ hq, rfl⟩
        obtain ⟨q, hq, rfl⟩ := this
        intro e46
        subst e46
        exact ((hag q hq).1.2 _ (List.mem_map.2 ⟨46, hc, rfl⟩)).2 rfl
    have hur : uniR s = uniP (labR p).1 ++ joinU false (ps.map fun q => (labR q).1) := by
      unfold uniR
      rw [hsp, List.map_cons, joinU_cons]
      rfl
    have hv : ∀ c ∈ uniR s, kindOf c = 1 := by
      unfold uniR
      rw [hsp]
      refine joinU_kind _ _ ?_
      intro x hx
      obtain ⟨q, hq, rfl⟩ := List.mem_map.1 hx
      exact (hul q hq).1
    have hpieces : goI [] (uniR s) = (p :: ps).map fun q => uniP (labR q).1 := by
      rw [hur, goI_joinU (ps.map fun q => (labR q).1) (labR p).1 ?_]
      · simp
      · intro x hx c hc
        have : ∃ q ∈ p :: ps, (labR q).1 = x := by
          rcases List.mem_cons.1 hx with rfl | hx
          · exact ⟨p, List.mem_cons_self, rfl⟩
          · obtain ⟨q, hq, rfl⟩ := List.mem_map.1 hx
            exact ⟨q, List.mem_cons_of_mem _ hq, rfl⟩
        obtain ⟨q, hq, rfl⟩ := this
        exact ((hul q hq).1 c hc).2
    unfold ascR
    rw [if_neg (by omega), if_pos (fine_all (fine_of_valid hv)), map_again hv, goA_pieces, hpieces, joinA_ok _ _ _ ?_, List.nil_append]
    · have e : ((p :: ps).map fun q => uniP (labR q).1).map (fun q => bytesOf (labR q).1) = (p :: ps).map fun q => bytesOf (labR q).1 := by
        rw [List.map_map]
        refine List.map_congr_left fun q hq => ?_
        simp only [Function.comp]
        rw [(hul q hq).2]
      rw [e, ← hb]
      unfold finA
      rw [if_neg (by rw [bytesOf_len]; omega)]
      rfl
    · intro q hq
      obtain ⟨r, hr, rfl⟩ := List.mem_map.1 hq
      rw [(hul r hr).2]
end Go.Proofs.Ytkpkfcoljccimaa
