/- Texts of one proof, laid behind one another. -/
import Derived.Test.YtkpkfcoljccimaaDoorBundE
import Derived.Test.YtkpkfcoljccimaaDoorBundA
import Derived.Test.YtkpkfcoljccimaaDoorBundC
/- Names of domains, as plain functions: a label, as the document tells it. -/
namespace Go.Proofs.YtkpkfcoljccimaaDoor
open Go.RowKit
set_option linter.unusedVariables false
set_option maxRecDepth 20000
def asciiB (l : List Int) : Bool := l.all fun c => decide (0 ≤ c ∧ c ≤ 127)
def markB (b : List UInt8) : Bool := b.take 4 == [120, 110, 45, 45]
def textB (l : List Int) : ByteArray := strOf (textL l)
/-- What is behind xn--, read: is it a label's own? -/
def backOk (t : ByteArray) : Bool :=
  (decR t).2 == 0 && !asciiB (ints (decR t).1) && !markB (textL (ints (decR t).1)) && (ints (decR t).1).all (fun c => kindR c == 1) && (encR (ints (decR t).1)).2 == 0 && bytesOf (encR (ints (decR t).1)).1 == bytesOf t
/-- A label. -/
def labR (l : List Int) : ByteArray × Int :=
  if asciiB l = false then
    if markB (textL l) = true then (strOf [], 4)
    else if (encR l).2 = 0 then (strOf ([120, 110, 45, 45] ++ bytesOf (encR l).1), 0) else (strOf [], (encR l).2)
  else if markB (textL l) = false then (textB l, 0)
  else if backOk (strOf ((textL l).drop 4)) = true then (textB l, 0) else (strOf [], 4)
theorem ascii_snoc (l : List Int) (k : Nat) (h : k < l.length) : asciiB (l.take (k + 1)) = (asciiB (l.take k) && decide (0 ≤ l[k] ∧ l[k] ≤ 127)) := by
  unfold asciiB
  rw [List.take_succ_eq_append_getElem h, List.all_append]
  simp
theorem ascii_not (l : List Int) (k : Nat) (h : k < l.length) (hn : ¬ (0 ≤ l[k] ∧ l[k] ≤ 127)) : asciiB l = false := by
  unfold asciiB
  rw [List.all_eq_false]
  exact ⟨l[k], List.getElem_mem h, by simpa using hn⟩
theorem text_len (l : List Int) : (textL l).length ≤ 4 * l.length := by
  unfold textL encL
  rw [List.length_flatMap]
  have h : ∀ (m : List Int), (m.map fun c => (encN c.toNat).length).sum ≤ 4 * m.length := by
    intro m
    induction m with
    | nil => simp
    | cons c m ih =>
      have : (encN c.toNat).length ≤ 4 := by unfold encN; split; simp; split; simp; split; simp; simp
      simp only [List.map_cons, List.sum_cons, List.length_cons]; omega
  have := h (l.map fix)
  simpa using this
end Go.Proofs.YtkpkfcoljccimaaDoor
/- The walks of the document's ascii, marked. -/
namespace Go.Proofs.YtkpkfcoljccimaaDoor
open Go.RowKit
set_option linter.unusedVariables false
set_option maxRecDepth 20000
theorem rascii_calls (v : Value) (l : List Int) (w : World) (hv : IRow w v l) :
    Calls Tryd.prog 25 #[v] w fun e w' => e = .returned (.bool (asciiB l)) ∧ w' = w := by
  have HV := hid hv
  obtain ⟨a, cap, rfl, h1, h2, h3⟩ := hv
  unfold maxLen at h2
  have l2 : (l.length : Int) ≤ (cap : Int) := by omega
  have l3 : (cap : Int) ≤ 9223372036854775807 := by omega
  obtain ⟨R, hR⟩ : ∃ R, R = asciiB l := ⟨_, rfl⟩
  rw [← hR]
  have HR := hid hR
  clear h1 h2 h3 hR
  go_enter Tryd.func25, Tryd.ntmps25
  go_wp2_with fail
  go_loop [3] (fun vi => ∃ k : Nat, k ≤ l.length ∧ vi = .int .i64 (k : Int) ∧ asciiB (l.take k) = true) (fun vi => l.length - (intOf vi).toNat)
  case atStart => exact ⟨0, Nat.zero_le _, rfl, rfl⟩
  case round =>
    obtain ⟨k, hk, rfl, hall⟩ := hrel
    have HA := hid hall
    have k0 : (0 : Int) ≤ (k : Int) := by omega
    clear hall
    by_cases hlt : k < l.length
    · obtain ⟨b, off, rfl, hck⟩ := HV.out.open (Below.refl _ _) k hlt
      have k1 : (k : Int) < (l.length : Int) := by omega
      have HS := hid (ascii_snoc l k hlt)
      have HN := hid (ascii_not l k hlt)
      have HK := hid hlt
      generalize l[k] = c at *
      clear hlt hk
      by_cases h0 : c < 0
      · have HF : Hid (R = false) := by show _ = _; rw [HR.out]; exact HN.out (by omega)
        clear HS HN
        go_wp2_with fail
        go_ret
        exact ⟨by rw [HF.out]; rfl, rfl⟩
      · by_cases h1 : 127 < c
        · have HF : Hid (R = false) := by show _ = _; rw [HR.out]; exact HN.out (by omega)
          clear HS HN
          go_wp2_with fail
          go_ret
          exact ⟨by rw [HF.out]; rfl, rfl⟩
        · have HX : Hid (asciiB (l.take (k + 1)) = true) := by show _ = _; rw [HS.out, HA.out, decide_eq_true (by omega)]; rfl
          clear HS HN
          go_wp2_with fail
          go_round
          case rel => exact ⟨k + 1, HK.out, by go_num, HX.out⟩
          case measure => have := HK.out; simp [intOf]; omega
    · have hkl : k = l.length := by omega
      have HF : Hid (R = true) := by show _ = _; rw [HR.out, ← HA.out, hkl, List.take_length]
      have g : ¬ (k : Int) < (l.length : Int) := by omega
      clear hlt hk hkl
      go_wp2_with fail
      go_ret
      exact ⟨by rw [HF.out]; rfl, rfl⟩
theorem rmarked_calls (s : ByteArray) (w : World) (hs : s.size ≤ maxLen) :
    Calls Tryd.prog 26 #[.string s] w fun e w' => e = .returned (.bool (markB (bytesOf s))) ∧ w' = w := by
  unfold maxLen at hs
  have s1 : (s.size : Int) ≤ 9223372036854775807 := by omega
  have hbl := bytesOf_len s
  obtain ⟨R, hR⟩ : ∃ R, R = markB (bytesOf s) := ⟨_, rfl⟩
  rw [← hR]
  by_cases h4 : 4 ≤ s.size
  · have e1 : (s.extract 0 4).toList = (bytesOf s).take 4 := by rw [ByteArray.toList_eq]; exact extract_bytes s 4 h4
    have e2 : ((bytesOf s).take 4 == [120, 110, 45, 45]) = R := hR.symm
    have g : (4 : Int) ≤ (s.size : Int) := by omega
    generalize (bytesOf s).take 4 = T at *
    clear hR hbl h4 hs
    go_enter Tryd.func26, Tryd.ntmps26
    go_wp2_with fail
    go_ret
    exact ⟨rfl, rfl⟩
  · have g : ¬ (4 : Int) ≤ (s.size : Int) := by omega
    have HF : Hid (R = false) := by
      show _ = _
      rw [hR]
      unfold markB
      rw [beq_eq_false_iff_ne]
      intro h
      have := congrArg List.length h
      rw [List.length_take] at this
      simp at this
      omega
    clear hR hbl h4 hs
    go_enter Tryd.func26, Tryd.ntmps26
    go_wp2_with fail
    go_ret
    exact ⟨by rw [HF.out]; rfl, rfl⟩
end Go.Proofs.YtkpkfcoljccimaaDoor
/- The walk of Split: a text's pieces. -/
namespace Go.Proofs.YtkpkfcoljccimaaDoor
open Go.RowKit
set_option linter.unusedVariables false
set_option maxRecDepth 20000
abbrev fs (x : ByteArray) : Value := .string x
abbrev SRow (w : World) (v : Value) (l : List ByteArray) : Prop := Row fs w v l
abbrev SOwn (w : World) (base : Nat) (v : Value) (l : List ByteArray) : Prop := Own fs 9 w base v l
theorem info_str : (Tryd.prog.info? 9).map (fun i => (i.zero, i.size, i.bytes)) = some (some (.string ⟨#[]⟩), 1, 16) := by kernel_rfl
theorem appendS_run {w : World} {base : Nat} {v : Value} {xs : List ByteArray} (hown : SOwn w base v xs) {x : Value} {l : List ByteArray} (hx : SRow w x l) (hlen : xs.length + l.length ≤ 1000000) (hbase : base ≤ w.heap.size) :
    ∃ v' w', (Builtin.append_ #[34, 34] 34 #[v, x]).run Tryd.prog w = .ok v' w' ∧ SOwn w' base v' (xs ++ l) ∧ w.grownBy w' v.ownBlock :=
  append_gen (fun _ => rfl) Tryd.underlying34 info_str rfl (by decide) hown hx hlen hbase
/-- A text's pieces at a byte. -/
def goS (c : UInt8) : List UInt8 → List UInt8 → List (List UInt8)
  | cur, [] => [cur]
  | cur, x :: r => if x = c then cur :: goS c [] r else goS c (cur ++ [x]) r
def splitB (c : UInt8) (b : List UInt8) : List ByteArray := (goS c [] b).map strOf
theorem goS_len (c : UInt8) : ∀ (r cur : List UInt8), (goS c cur r).length ≤ r.length + 1
  | [], cur => by simp [goS]
  | x :: r, cur => by
    unfold goS
    split
    · have := goS_len c r []; simp; omega
    · have := goS_len c r (cur ++ [x]); simp; omega
theorem pieceB_snoc {m : List UInt8} {f i : Nat} (hf : f ≤ i) (hi : i < m.length) : (m.drop f).take (i - f) ++ [m[i]] = (m.drop f).take (i + 1 - f) := by
  rw [show i + 1 - f = (i - f) + 1 by omega]
  rw [List.take_succ_eq_append_getElem (by rw [List.length_drop]; omega), List.getElem_drop]
  congr 2
  simp only [show f + (i - f) = i by omega]
def SplitAt (c : UInt8) (b : List UInt8) (R zs : List ByteArray) (f i : Nat) : Prop :=
  zs.length ≤ i ∧ ((f ≤ i ∧ i ≤ b.length ∧ R = zs ++ (goS c ((b.drop f).take (i - f)) (b.drop i)).map strOf) ∨ (i = b.length + 1 ∧ R = zs))
theorem SplitAt.start (c : UInt8) (b : List UInt8) : SplitAt c b (splitB c b) [] 0 0 := ⟨Nat.le_refl _, .inl ⟨Nat.le_refl _, Nat.zero_le _, by simp [splitB]⟩⟩
theorem SplitAt.skip {c : UInt8} {b : List UInt8} {R zs : List ByteArray} {f i : Nat} (h : SplitAt c b R zs f i) (hi : i < b.length) (hc : b[i] ≠ c) : SplitAt c b R zs f (i + 1) := by
  obtain ⟨hs, ⟨hf, _, hr⟩ | ⟨h, _⟩⟩ := h
  · refine ⟨by omega, .inl ⟨by omega, hi, ?_⟩⟩
    rw [hr, drop_at hi]
    show zs ++ List.map strOf (if b[i] = c then _ else _) = _
    rw [if_neg hc, pieceB_snoc hf hi]
  · omega
theorem SplitAt.cut {c : UInt8} {b : List UInt8} {R zs : List ByteArray} {f i : Nat} (h : SplitAt c b R zs f i) (hi : i = b.length ∨ ∃ h : i < b.length, b[i] = c) : SplitAt c b R (zs ++ [strOf ((b.drop f).take (i - f))]) (i + 1) (i + 1) := by
  obtain ⟨hs, ⟨hf, _, hr⟩ | ⟨h, _⟩⟩ := h
  · refine ⟨by simp; omega, ?_⟩
    rcases hi with hi | ⟨hi, hc⟩
    · right
      refine ⟨by omega, ?_⟩
      have e : b.drop i = [] := List.drop_eq_nil_of_le (by omega)
      rw [hr, e]; rfl
    · left
      refine ⟨Nat.le_refl _, hi, ?_⟩
      rw [hr, drop_at hi, hc]
      show zs ++ List.map strOf (if c = c then _ else _) = _
      rw [if_pos rfl]
      simp
  · rcases hi with hi | ⟨hi, _⟩ <;> omega
theorem SplitAt.fin {c : UInt8} {b : List UInt8} {R zs : List ByteArray} {f i : Nat} (h : SplitAt c b R zs f i) (hi : b.length < i) : i = b.length + 1 ∧ R = zs := by
  obtain ⟨hs, ⟨hf, h2, hr⟩ | h⟩ := h
  · omega
  · exact h
theorem SplitAt.le {c : UInt8} {b : List UInt8} {R zs : List ByteArray} {f i : Nat} (h : SplitAt c b R zs f i) (hi : i ≤ b.length) : f ≤ i ∧ zs.length ≤ i := by
  obtain ⟨hs, ⟨hf, h2, hr⟩ | ⟨h, _⟩⟩ := h
  · exact ⟨hf, hs⟩
  · omega
theorem extract_mid (s : ByteArray) (f i : Nat) (h : i ≤ s.size) : s.extract f i = strOf (((bytesOf s).drop f).take (i - f)) := by
  apply ByteArray.ext
  have h1 : (s.extract f i).data.toList = ((bytesOf s).drop f).take (i - f) := by
    unfold bytesOf
    simp [ByteArray.data_extract]
  have : (s.extract f i).data = (((bytesOf s).drop f).take (i - f)).toArray := by rw [← h1]
  rw [this]; rfl
set_option maxRecDepth 20000 in
set_option maxHeartbeats 4000000 in
theorem split_calls (s : ByteArray) (c : UInt8) (w : World) (hs : s.size ≤ 500000) :
    Calls Tryd.prog 32 #[.string s, .int .u8 (c.toNat : Int)] w fun e w' => (∃ v', e = .returned v' ∧ SOwn w' w.heap.size v' (splitB c (bytesOf s))) ∧ Below w.heap.size w w' := by
  have s1 : (s.size : Int) ≤ 500000 := by omega
  have hbl := bytesOf_len s
  obtain ⟨R, hR⟩ : ∃ R, R = splitB c (bytesOf s) := ⟨_, rfl⟩
  rw [← hR]
  have HS0 : Hid (SplitAt c (bytesOf s) R [] 0 0) := by rw [hR]; exact SplitAt.start _ _
  have HBL := hid hbl
  have hc256 := byte_lt c
  have HC := hid (fun (x : UInt8) (h : x.toNat = c.toNat) => (UInt8.toNat_inj.1 h : x = c))
  have HSS := hid hs
  generalize hcn : c.toNat = cn at *
  have cn0 : (0 : Int) ≤ (cn : Int) := by omega
  have cn1 : (cn : Int) < 256 := by omega
  have HCN := hid hcn
  clear hR hbl hs hc256 hcn
  go_enter Tryd.func32, Tryd.ntmps32
  go_wp2_with fail
  go_loopw [5, 6, 7] (fun vo vf vi wr => ∃ (zs : List ByteArray) (f i : Nat), vf = .int .i64 (f : Int) ∧ vi = .int .i64 (i : Int) ∧ SOwn wr w.heap.size vo zs ∧ Below w.heap.size w wr ∧ SplitAt c (bytesOf s) R zs f i) (fun _ _ vi _ => s.size + 1 - (intOf vi).toNat)
  case atStart => exact ⟨[], 0, 0, rfl, rfl, Own.nil _ _ _ _, Below.refl _ _, HS0.out⟩
  case round =>
    obtain ⟨zs, f, i, rfl, rfl, ho, hb, hA⟩ := hrel
    have HA := hid hA
    have HB := hid hb
    have HO := hid ho
    have HSz : Hid (w.heap.size ≤ wr.heap.size) := hb.size
    have i0 : (0 : Int) ≤ (i : Int) := by omega
    have f0 : (0 : Int) ≤ (f : Int) := by omega
    clear ho hb hA HS0
    by_cases hin : i ≤ s.size
    · have hin' : i ≤ (bytesOf s).length := by rw [HBL.out]; exact hin
      obtain ⟨hfi, hzl⟩ := HA.out.le hin'
      have g1 : (i : Int) ≤ (s.size : Int) := by omega
      have g2 : (f : Int) ≤ (i : Int) := by omega
      have hx := extract_mid s f i hin
      obtain ⟨v', w', hr, ho', hg⟩ := appendS_run (HO.out.alloc (.cells #[.string (s.extract f i)] 9)) (Row.lit fs wr [s.extract f i] 9 (0, 0) (by simp)) (by have := HSS.out; simp; omega) (by have := HSz.out; simp; omega)
      have HO2 := hid ho'
      have HB2 := hid ((HB.out.alloc HSz.out (.cells #[.string (s.extract f i)] 9)).grown hg (by have := HSz.out; simp; omega) (Own.lt HO.out))
      have HXX := hid hx
      have HK : Hid (i < s.size + 1) := by show _ < _; omega
      clear ho' hg hx
      by_cases hlt : i < s.size
      · have g3 : (i : Int) < (s.size : Int) := by omega
        have ge : ((i : Int) == (s.size : Int)) = false := by rw [beq_eq_false_iff_ne]; omega
        have hbi : (bytesOf s)[i]'(by rw [HBL.out]; exact hlt) = s[i] := rfl
        have HSk := hid (HA.out.skip (by rw [HBL.out]; exact hlt))
        have HCt := hid (HA.out.cut)
        rw [hbi] at HSk
        have hx256 := byte_lt s[i]
        obtain ⟨z, hz⟩ : ∃ z, s[i].toNat = z := ⟨_, rfl⟩
        rw [hz] at hx256
        have z0 : (0 : Int) ≤ (z : Int) := by omega
        have z1 : (z : Int) < 256 := by omega
        by_cases hzc : z = cn
        · have hbc : s[i] = c := HC.out _ (by rw [hz, hzc])
          have HN : Hid (SplitAt c (bytesOf s) R (zs ++ [s.extract f i]) (i + 1) (i + 1)) := by
            rw [HXX.out]
            exact HCt.out (.inr ⟨by rw [HBL.out]; exact hlt, by rw [hbi]; exact hbc⟩)
          have q1 : ((z : Int) == (cn : Int)) = true := by rw [beq_iff_eq]; omega
          have q2 : (z : Int) = (cn : Int) := by omega
          clear hbc hzc hbi HSk HCt hx256 hin hin' hfi hzl
          go_wp2_with (at_builtin; go_must (refine wpList_append_run hr rfl _ _ rfl rfl rfl rfl ?_))
          go_roundw
          case rel => exact ⟨_, i + 1, i + 1, by go_num, by go_num, HO2.out, HB2.out, HN.out⟩
          case measure => have := HK.out; simp [intOf] <;> omega
        · have HN := hid (HSk.out (fun e => hzc (by rw [← hz, e]; exact HCN.out)))
          have q1 : ((z : Int) == (cn : Int)) = false := by rw [beq_eq_false_iff_ne]; omega
          clear hzc hbi HSk HCt hx256 hin hin' hfi hzl
          go_wp2_with fail
          go_roundw
          case rel => exact ⟨zs, f, i + 1, rfl, by go_num, HO.out, HB.out, HN.out⟩
          case measure => have := HK.out; simp [intOf] <;> omega
      · have HN : Hid (SplitAt c (bytesOf s) R (zs ++ [s.extract f i]) (i + 1) (i + 1)) := by
          rw [HXX.out]
          exact HA.out.cut (.inl (by rw [HBL.out]; omega))
        have ge : ((i : Int) == (s.size : Int)) = true := by rw [beq_iff_eq]; omega
        have ge2 : (i : Int) = (s.size : Int) := by omega
        have hie : i = s.size := by omega
        subst hie
        clear hin hin' hfi hzl hlt
        go_wp2_with (at_builtin; go_must (refine wpList_append_run hr rfl _ _ rfl rfl rfl rfl ?_))
        go_roundw
        case rel => exact ⟨_, s.size + 1, s.size + 1, by go_num, by go_num, HO2.out, HB2.out, HN.out⟩
        case measure => have := HK.out; simp [intOf] <;> omega
    · obtain ⟨_, hfin⟩ := HA.out.fin (by rw [HBL.out]; omega)
      have HX := hid hfin
      have g1 : ¬ (i : Int) ≤ (s.size : Int) := by omega
      clear hin hfin
      go_wp2_with fail
      go_ret
      exact ⟨⟨_, rfl, by rw [HX.out]; exact HO.out⟩, HB.out⟩
end Go.Proofs.YtkpkfcoljccimaaDoor
