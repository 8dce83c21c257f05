/- The walk of insertSigns. -/
import Derived.Test.YtpjajiilgojbgaaPunyG
namespace Go.Proofs.Ytpjajiilgojbgaa
open Go.RowKit Go.Shelf
set_option linter.unusedVariables false
def strLen : Value → Nat
  | .string s => s.size
  | _ => 0
theorem strLen_string (s : ByteArray) : strLen (.string s) = s.size := rfl
def InsPost (R : Option (List Nat)) (base : Nat) (w : World) (e : Ending) (w' : World) : Prop :=
  ((R = none ∧ e = .returned (.tuple #[.slice none 0 0, .bool false])) ∨ (∃ m v', R = some m ∧ e = .returned (.tuple #[v', .bool true]) ∧ NOwn w' base v' m)) ∧ Below base w w'
theorem InsPost.no {R : Option (List Nat)} {base : Nat} {w w' : World} {e : Ending} (h : R = none) (he : e = .returned (.tuple #[.slice none 0 0, .bool false])) (hb : Below base w w') : InsPost R base w e w' := ⟨.inl ⟨h, he⟩, hb⟩
theorem InsPost.yes {R : Option (List Nat)} {base : Nat} {w w' : World} {e : Ending} {m : List Nat} {v' : Value} (h : R = some m) (he : e = .returned (.tuple #[v', .bool true])) (ho : NOwn w' base v' m) (hb : Below base w w') : InsPost R base w e w' := ⟨.inr ⟨m, v', h, he, ho⟩, hb⟩
theorem vals_nil {s : ByteArray} (h : s.size = 0) : vals s = [] := List.eq_nil_of_length_eq_zero (by rw [vals_len, h])
theorem extract_vals (s : ByteArray) (j : Nat) (h : j ≤ s.size) : vals (s.extract j s.size) = (vals s).drop j := by
  unfold vals bytesOf
  rw [← List.map_drop]
  congr 1
  simp [ByteArray.data_extract]
  try (rw [List.take_of_length_le]; simp)
set_option maxRecDepth 20000 in
set_option maxHeartbeats 4000000 in
theorem insert_signs_calls (v : Value) (l : List Nat) (s : ByteArray) (w : World) (base : Nat) (ho : NOwn w base v l) (hb : base ≤ w.heap.size) (hl : l.length ≤ 256) (hs : s.size ≤ 5000) :
    Calls Try.prog 22 #[v, .string s] w fun e w' => InsPost (insF s.size l (vals s) 128 0 72 true) base w e w' := by
  obtain ⟨R, hR⟩ : ∃ R, R = insF s.size l (vals s) 128 0 72 true := ⟨_, rfl⟩
  rw [← hR]
  have HR := hid hR
  have HO := hid ho
  have HBA := hid hb
  have HL := hid hl
  have HS := hid hs
  clear hR ho hb hl hs
  go_enter Try.func22, Try.ntmps22
  go_wp2_with fail
  go_loopw [0, 1, 6, 7, 8, 9] (fun vo vt vs va vb vf wr => ∃ (ys : List Nat) (t : ByteArray) (sign at_ bias f : Nat) (fl : Bool), vt = .string t ∧ vs = .int .i64 (sign : Int) ∧ va = .int .i64 (at_ : Int) ∧ vb = .int .i64 (bias : Int) ∧ vf = .bool fl ∧ NOwn wr base vo ys ∧ Below base w wr ∧ R = insF f ys (vals t) sign at_ bias fl ∧ t.size ≤ f ∧ t.size ≤ 5000 ∧ ys.length ≤ 256 ∧ at_ ≤ 256 ∧ sign ≤ 1114111 ∧ bias ≤ 2340) (fun _ vt _ _ _ _ _ => strLen vt)
  case atStart => exact ⟨l, s, 128, 0, 72, s.size, true, rfl, rfl, rfl, rfl, rfl, HO.out, Below.refl _ _, HR.out, Nat.le_refl _, HS.out, HL.out, by decide, by decide, by decide⟩
  case round =>
    obtain ⟨ys, t, sign, at_, bias, f, fl, rfl, rfl, rfl, rfl, rfl, ho, hb, hr, hf, ht, hyl, hat, hsg, hbi⟩ := hrel
    clear HR HO HL HS
    by_cases h0 : t.size = 0
    · have HX : Hid (R = some ys) := by show _ = _; rw [hr, vals_nil h0, insF_nil]
      have HOy := hid ho
      have HBy := hid hb
      have g0 : t.toList.isEmpty = true := by
        rw [ByteArray.toList_eq, List.isEmpty_iff]
        exact List.eq_nil_of_length_eq_zero (by rw [← h0]; exact bytesOf_len t)
      clear ho hb hr hf ht hyl hat hsg hbi h0
      go_wp2_with fail
      go_ret2
      exact InsPost.yes HX.out rfl HOy.out HBy.out
    · have g0 : t.toList.isEmpty = false := by
        rw [ByteArray.toList_eq]
        cases hq : t.data.toList with
        | nil => exact absurd (by rw [← bytesOf_len t]; unfold bytesOf; rw [hq]; rfl) h0
        | cons x y => rfl
      have hne : ¬ vals t = [] := fun h => h0 (by rw [← vals_len t, h]; rfl)
      obtain ⟨g, rfl⟩ : ∃ g, f = g + 1 := ⟨f - 1, by omega⟩
      rw [insF_succ, if_neg hne] at hr
      have HOy := hid ho
      have HBy := hid hb
      have HSz : Hid (base ≤ wr.heap.size) := Nat.le_trans HBA.out hb.size
      rcases ho.row with ⟨a', cap', hE0, hE1, hE2, hE3⟩
      subst hE0
      unfold maxLen at hE2
      have y0 : (ys.length : Int) ≤ (cap' : Int) := by omega
      have y1 : (cap' : Int) ≤ 9223372036854775807 := by omega
      have y2 : (ys.length : Int) ≤ 256 := by omega
      clear ho hb hE1 hE2 hE3
      by_cases hfull : ys.length = 256
      · have HX : Hid (R = none) := by show _ = _; rw [hr, if_pos (by omega)]
        have g1 : ((ys.length : Int) == 256) = true := by rw [beq_iff_eq]; omega
        have g2 : (ys.length : Int) = 256 := by omega
        clear hr hf ht hyl hat hsg hbi h0 hfull hne
        go_wp2_with fail
        go_ret2
        exact InsPost.no HX.out rfl HBy.out
      · rw [if_neg (by omega)] at hr
        have g1 : ((ys.length : Int) == 256) = false := by rw [beq_eq_false_iff_ne]; omega
        have HRd := hid (fun w' => read_calls t at_ bias w' ht (by omega) hbi)
        have HLen := hid (rd_len (vals t) at_ 1 36 bias)
        have HLe := hid (fun m r h => rd_le (vals t) at_ 1 36 bias m r h (by decide) (by unfold most; omega))
        generalize rd (vals t) at_ 1 36 bias = Q at *
        have HT := hid ht
        have HF := hid hf
        have HH := hid h0
        have HY : Hid (ys.length < 256) := by show _ < _; omega
        have HRr := hid hr
        have sg0 : (0 : Int) ≤ (sign : Int) := by omega
        have sg1 : (sign : Int) ≤ 1114111 := by omega
        have at0 : (0 : Int) ≤ (at_ : Int) := by omega
        have at1 : (at_ : Int) ≤ 256 := by omega
        clear hr hf ht hyl hat hsg hbi h0 hfull hne
        go_wp2_with fail
        refine (HRd.out _).mono ?_
        rintro e w1 ⟨hp, hb1⟩
        have HB1 := hid (HBy.out.trans (hb1.mono HSz.out))
        have HO1 := hid (HOy.out.below hb1)
        have HS1 : Hid (base ≤ w1.heap.size) := Nat.le_trans HSz.out hb1.size
        clear hb1
        rcases hp with ⟨hq, rfl⟩ | ⟨m, r, j, hq, hj, hjr, rfl⟩
        · have HX : Hid (R = none) := by show _ = _; rw [HRr.out, hq]
          clear hq HRr HLen HLe
          go_wp2_with fail
          go_ret2
          exact InsPost.no HX.out rfl HB1.out
        · have hX := HRr.out
          rw [hq] at hX
          simp only at hX
          obtain ⟨hm1, hm2⟩ := HLe.out m r hq
          have hrl := HLen.out m r hq
          have hrv : vals (t.extract j t.size) = r := by rw [extract_vals t j hj, hjr]
          have hts : (t.extract j t.size).size = t.size - j := by
            rw [← vals_len, extract_vals t j hj, List.length_drop, vals_len]
          have hj1 : 1 ≤ j := by
            rw [← hjr, List.length_drop, vals_len] at hrl
            omega
          unfold most at hm2
          obtain ⟨q, hqd⟩ : ∃ q, q = m / (ys.length + 1) := ⟨_, rfl⟩
          obtain ⟨p, hpd⟩ : ∃ p, p = m % (ys.length + 1) := ⟨_, rfl⟩
          obtain ⟨S, hS⟩ : ∃ S, S = sign + q := ⟨_, rfl⟩
          have hpl : p ≤ ys.length := by rw [hpd]; have := Nat.mod_lt m (y := ys.length + 1) (by omega); omega
          have hql : q ≤ m := by rw [hqd]; exact Nat.div_le_self _ _
          rw [← hqd, ← hpd, ← hS] at hX
          have e1 : (m : Int) / ((ys.length : Int) + 1) = (q : Int) := by rw [hqd, Int.natCast_ediv]; rfl
          have e2 : (m : Int) % ((ys.length : Int) + 1) = (p : Int) := by rw [hpd, Int.natCast_emod]; rfl
          have e3 : (sign : Int) + (q : Int) = (S : Int) := by omega
          have m0 : (at_ : Int) ≤ (m : Int) := by omega
          have m1 : (m : Int) ≤ 2147483647 := by omega
          have q0 : (0 : Int) ≤ (q : Int) := by omega
          have q1 : (q : Int) ≤ 2147483647 := by omega
          have p0 : (0 : Int) ≤ (p : Int) := by omega
          have p1 : (p : Int) ≤ (ys.length : Int) := by omega
          have HAd : Hid (∀ w', Calls Try.prog 26 #[.int .i64 ((m : Int) - (at_ : Int)), .int .i64 ((ys.length : Int) + 1), .bool fl] w' fun e w2 => e = .returned (.int .i64 ((adapt (m - at_) (ys.length + 1) fl : Nat) : Int)) ∧ w2 = w') := fun w' => by
            have := adapt_calls (m - at_) (ys.length + 1) fl w' (by omega) (by omega) (by have := HY.out; omega)
            rw [Int.natCast_sub hm1, Int.natCast_add] at this
            exact this
          have HBi := hid (adapt_le (m - at_) (ys.length + 1) fl)
          generalize adapt (m - at_) (ys.length + 1) fl = A at *
          have HSc := hid (fun w' => scalar_calls (S : Int) w')
          have HFi : Hid (1 ≤ j ∧ t.size - j ≤ g ∧ t.size - j ≤ 5000 ∧ (t.extract j t.size).size = t.size - j ∧ 0 < t.size) := ⟨hj1, by have := HF.out; omega, by have := HT.out; omega, hts, by have := HH.out; omega⟩
          have HPl := hid hpl
          by_cases hsc : isS (S : Int) = true
          · rw [if_pos hsc] at hX
            have hS1 : S ≤ 1114111 := by have := isS_iff.1 hsc; omega
            rw [hsc] at HSc
            have HX : Hid (R = insF g (ins ys p S) (vals (t.extract j t.size)) S (p + 1) A false) := by show _ = _; rw [hX, hrv]; rfl
            have HIL := hid (ins_len ys p S hpl)
            have HS2 := hid hS1
            have HI := hid (fun w' ho hb => insert_calls (.slice a' ys.length cap') ys p S w' base ho hb (by have := HY.out; omega) hpl)
            have s2 : (S : Int) ≤ 1114111 := by omega
            clear hX hsc hq hm1 hm2 hrl hrv hts hj1 hqd hpd hS hpl hql hS1 hj hjr HRr HLen HLe
            go_wp2_with fail
            refine (HAd.out _).mono ?_
            rintro e w2 ⟨rfl, rfl⟩
            go_wp2_with fail
            refine (HSc.out _).mono ?_
            rintro e w3 ⟨rfl, rfl⟩
            go_wp2_with fail
            refine (HI.out _ HO1.out HS1.out).mono ?_
            rintro e w4 ⟨⟨v', rfl, ho4⟩, hb4⟩
            have HO4 := hid ho4
            have HB4 := hid (HB1.out.trans hb4)
            clear ho4 hb4 HI
            go_wp2_with fail
            go_roundw
            case rel => exact ⟨ins ys p S, t.extract j t.size, S, p + 1, A, g, false, rfl, rfl, by go_num, rfl, rfl, HO4.out, HB4.out, HX.out, by rw [HFi.out.2.2.2.1]; exact HFi.out.2.1, by rw [HFi.out.2.2.2.1]; exact HFi.out.2.2.1, by rw [HIL.out]; exact HY.out, by have := HPl.out; have := HY.out; omega, HS2.out, HBi.out⟩
            case measure => have := HFi.out; simp only [strLen_string]; omega
          · rw [if_neg hsc] at hX
            have HX := hid hX
            have hsc' : isS (S : Int) = false := by simpa using hsc
            rw [hsc'] at HSc
            have s2 : (S : Int) ≤ 3000000000 := by omega
            clear hX hsc hsc' hq hm1 hm2 hrl hrv hts hj1 hqd hpd hS hpl hql hj hjr HRr HLen HLe
            go_wp2_with fail
            refine (HAd.out _).mono ?_
            rintro e w2 ⟨rfl, rfl⟩
            go_wp2_with fail
            refine (HSc.out _).mono ?_
            rintro e w3 ⟨rfl, rfl⟩
            go_wp2_with fail
            go_ret2
            exact InsPost.no HX.out rfl HB1.out
end Go.Proofs.Ytpjajiilgojbgaa
