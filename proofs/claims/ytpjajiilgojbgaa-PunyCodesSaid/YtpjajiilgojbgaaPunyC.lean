/- The walks of leastFrom and appendNumber. -/
import Derived.Test.YtpjajiilgojbgaaPunyB
namespace Go.Proofs.Ytpjajiilgojbgaa
open Go.RowKit
set_option linter.unusedVariables false
abbrev fn (c : Nat) : Value := .int .i64 (c : Int)
abbrev NRow (w : World) (v : Value) (l : List Nat) : Prop := Row fn w v l
abbrev NOwn (w : World) (base : Nat) (v : Value) (l : List Nat) : Prop := Own fn 3 w base v l
theorem drop_at {α : Type} {l : List α} {k : Nat} (h : k < l.length) : l.drop k = l[k] :: l.drop (k + 1) := by rw [List.drop_eq_getElem_cons h]
theorem Row.open {α : Type} {f : α → Value} {w w' : World} {a : Option Addr} {n cap : Nat} {l : List α} (h : Row f w (.slice a n cap) l) (hb : Below w.heap.size w w') (k : Nat) (hk : k < l.length) : ∃ b off, a = some ⟨b, off, none⟩ ∧ w'.cell? ⟨b, off + k, none⟩ = some (f l[k]) := by
  obtain ⟨a', cap', he, _, _, h3⟩ := h
  injection he with e1 e2 e3
  subst e1
  obtain ⟨b, off, rfl, hbl, hc⟩ := h3 (by intro h; simp [h] at hk)
  exact ⟨b, off, rfl, (hb.cell (p := ⟨b, off + k, none⟩) hbl).trans (hc k hk)⟩
theorem lstF_cons (a n c : Nat) (l : List Nat) : lstF a n (c :: l) = lstF (if n ≤ c then min a c else a) n l := rfl
set_option maxHeartbeats 1000000 in
theorem least_calls (v : Value) (m : List Nat) (n : Nat) (w : World) (hv : NRow w v m) (hm : ∀ c ∈ m, c ≤ 1114111) (hn : n ≤ 2000000) :
    Calls Try.prog 24 #[v, .int .i64 (n : Int)] w fun e w' => e = .returned (.int .i64 ((least m n : Nat) : Int)) ∧ w' = w := by
  have HV := hid hv
  have HM := hid hm
  obtain ⟨a, cap, rfl, h1, h2, h3⟩ := hv
  unfold maxLen at h2
  have n0 : (0 : Int) ≤ (n : Int) := by omega
  have n1 : (n : Int) ≤ 2000000 := by omega
  obtain ⟨R, hR⟩ : ∃ R, R = least m n := ⟨_, rfl⟩
  rw [← hR]
  unfold least at hR
  have HR := hid hR
  clear h3 hm hR hn
  go_enter Try.func24, Try.ntmps24
  go_wp2_with fail
  go_loop [5, 10] (fun vx vi => ∃ k x : Nat, k ≤ m.length ∧ vx = .int .i64 (x : Int) ∧ vi = .int .i64 (k : Int) ∧ x ≤ 2147483647 ∧ R = lstF x n (m.drop k)) (fun _ vi => m.length - (intOf vi).toNat)
  case atStart => exact ⟨0, 2147483647, Nat.zero_le _, rfl, rfl, Nat.le_refl _, by rw [List.drop_zero]; exact HR.out⟩
  case round =>
    obtain ⟨k, x, hk, rfl, rfl, hx, hr⟩ := hrel
    clear HR
    have x0 : (0 : Int) ≤ (x : Int) := by omega
    have x1 : (x : Int) ≤ 2147483647 := by omega
    by_cases hlt : k < m.length
    · obtain ⟨b, off, rfl, hck⟩ := HV.out.open (Below.refl _ _) k hlt
      have hc := HM.out m[k] (List.getElem_mem hlt)
      rw [drop_at hlt, lstF_cons] at hr
      have HK := hid hlt
      have k0 : (0 : Int) ≤ (k : Int) := by omega
      have k1 : (k : Int) < (m.length : Int) := by omega
      generalize m[k] = c at *
      have c0 : (0 : Int) ≤ (c : Int) := by omega
      have c1 : (c : Int) ≤ 1114111 := by omega
      have HRr := hid hr
      have HX := hid hx
      clear hr hx hc hk hlt
      by_cases hnc : n ≤ c
      · have g : (n : Int) ≤ (c : Int) := by omega
        have HN := hid hnc
        by_cases hxc : x ≤ c
        · have g2 : (x : Int) ≤ (c : Int) := by omega
          have g3 : ¬ (c : Int) < (x : Int) := by omega
          have HQ : Hid (R = lstF x n (m.drop (k + 1))) := by show _ = _; rw [HRr.out, if_pos hnc, Nat.min_eq_left hxc]
          clear hnc hxc HRr
          go_wp2_with fail
          go_round
          case rel => exact ⟨k + 1, x, HK.out, rfl, by go_num, HX.out, HQ.out⟩
          case measure => have := HK.out; simp [intOf]; omega
        · have g2 : ¬ (x : Int) ≤ (c : Int) := by omega
          have g3 : (c : Int) < (x : Int) := by omega
          have HQ : Hid (R = lstF c n (m.drop (k + 1))) := by show _ = _; rw [HRr.out, if_pos hnc, Nat.min_eq_right (by omega)]
          clear hnc hxc HRr
          go_wp2_with fail
          go_round
          case rel => exact ⟨k + 1, c, HK.out, rfl, by go_num, by omega, HQ.out⟩
          case measure => have := HK.out; simp [intOf]; omega
      · have g : ¬ (n : Int) ≤ (c : Int) := by omega
        have HQ : Hid (R = lstF x n (m.drop (k + 1))) := by show _ = _; rw [HRr.out, if_neg hnc]
        clear hnc HRr
        go_wp2_with fail
        go_round
        case rel => exact ⟨k + 1, x, HK.out, rfl, by go_num, HX.out, HQ.out⟩
        case measure => have := HK.out; simp [intOf]; omega
    · have HQ : Hid (R = x) := by
        show _ = _
        rw [hr, List.drop_eq_nil_of_le (by omega)]; rfl
      clear hr
      go_wp2_with fail
      go_ret
      exact ⟨ret_int (by rw [HQ.out]), rfl⟩
set_option maxHeartbeats 1000000 in
theorem number_calls (v : Value) (xs : List UInt8) (n bias : Nat) (w : World) (base : Nat) (ho : BOwn w base v xs) (hb : base ≤ w.heap.size) (hl : xs.length ≤ 500000) (hn : n ≤ 3000000000) (hbi : bias ≤ 2340) :
    Calls Try.prog 25 #[v, .int .i64 (n : Int), .int .i64 (bias : Int)] w fun e w' => (∃ v', e = .returned v' ∧ BOwn w' base v' (xs ++ (num bias n).map letter)) ∧ Below base w w' := by
  have b0 : (0 : Int) ≤ (bias : Int) := by omega
  have b1 : (bias : Int) ≤ 2340 := by omega
  have HO := hid ho
  have HL := hid hl
  have HN := hid hn
  have HBI := hid hbi
  have HBA := hid hb
  obtain ⟨F, hF⟩ : ∃ F, F = xs ++ (num bias n).map letter := ⟨_, rfl⟩
  rw [← hF]
  unfold num at hF
  have HF := hid hF
  clear ho hl hn hbi hF hb
  go_enter Try.func25, Try.ntmps25
  go_wp2_with fail
  go_loopw [0, 1, 7] (fun vo vn vk wr => ∃ (ys : List UInt8) (q k f : Nat), vn = .int .i64 (q : Int) ∧ vk = .int .i64 (k : Int) ∧ BOwn wr base vo ys ∧ Below base w wr ∧ F = ys ++ (numF f k bias q).map letter ∧ q < 2 ^ f ∧ q ≤ 3000000000 ∧ k + 36 * f ≤ 2340 ∧ ys.length + f ≤ 500064) (fun _ vn _ _ => (intOf vn).toNat)
  case atStart => exact ⟨xs, n, 36, 64, rfl, rfl, HO.out, Below.refl _ _, HF.out, Nat.lt_of_le_of_lt HN.out (by decide), HN.out, by decide, by have := HL.out; omega⟩
  case round =>
    obtain ⟨ys, q, k, f, rfl, rfl, ho, hbw, hq, hf, hqm, hkf, hyl⟩ := hrel
    clear HF HO HL HN
    have HT := hid (fun w' => thr_calls k bias w' (by omega) (by have := HBI.out; omega))
    have t1 := thr_ge k bias
    have t2 := thr_le k bias
    have HSz : Hid (base ≤ wr.heap.size) := Nat.le_trans HBA.out hbw.size
    have q0 : (0 : Int) ≤ (q : Int) := by omega
    have q1 : (q : Int) ≤ 3000000000 := by omega
    have k0 : (0 : Int) ≤ (k : Int) := by omega
    have k1 : (k : Int) ≤ 2340 := by omega
    by_cases hlt : q < thr k bias
    · have HE : Hid (F = ys ++ [letter q]) := by
        show _ = _
        rw [hq]
        cases f with
        | zero => show _ ++ List.map letter [q % 36] = _; rw [Nat.mod_eq_of_lt (by omega)]; rfl
        | succ g => show _ ++ List.map letter (if q < thr k bias then _ else _) = _; rw [if_pos hlt]; rfl
      have HL := hid (fun w' => letter_calls q w' (by omega))
      generalize letter q = x at *
      obtain ⟨v', w', hr, ho', hg⟩ := append_run (ho.alloc (.cells #[.int .u8 (x.toNat : Int)] 5)) (Row.lit fb wr [x] 5 (0, 0) (by simp)) (by simp; omega) (by have := HSz.out; simp; omega)
      have HO2 := hid ho'
      have HB2 := hid ((hbw.alloc HSz.out (.cells #[.int .u8 (x.toNat : Int)] 5)).grown hg (by have := HSz.out; simp; omega) (Own.lt ho))
      have g : (q : Int) < ((thr k bias : Nat) : Int) := by omega
      generalize thr k bias = t at *
      clear ho' hg ho hbw hq hf hqm hkf hyl hlt t1 t2
      go_wp2_with fail
      refine (HT.out _).mono ?_
      rintro e w1 ⟨rfl, rfl⟩
      go_wp2_with fail
      refine (HL.out _).mono ?_
      rintro e w1 ⟨rfl, rfl⟩
      go_wp2_with (at_builtin; go_must (refine wpList_append_run hr rfl _ _ rfl rfl rfl rfl ?_))
      go_ret
      exact ⟨⟨_, rfl, by rw [HE.out]; exact HO2.out⟩, HB2.out⟩
    · obtain ⟨g, rfl⟩ : ∃ g, f = g + 1 := by
        cases f with
        | zero => simp at hf; omega
        | succ g => exact ⟨g, rfl⟩
      have hnl := num_less hf t1 t2
      have hmod := Nat.mod_lt (q - thr k bias) (y := 36 - thr k bias) (by omega)
      have hdv := Nat.div_le_self (q - thr k bias) (36 - thr k bias)
      have hq2 : F = ys ++ [letter (thr k bias + (q - thr k bias) % (36 - thr k bias))] ++ (numF g (k + 36) bias ((q - thr k bias) / (36 - thr k bias))).map letter := by
        rw [hq]
        show _ ++ List.map letter (if q < thr k bias then _ else _) = _
        rw [if_neg hlt]; simp
      generalize thr k bias = t at *
      obtain ⟨r, hrm⟩ : ∃ r, r = (q - t) % (36 - t) := ⟨_, rfl⟩
      obtain ⟨z, hz⟩ : ∃ z, z = (q - t) / (36 - t) := ⟨_, rfl⟩
      have e1 : ((q : Int) - (t : Int)) % (36 - (t : Int)) = (r : Int) := by rw [hrm, Int.natCast_emod]; congr 1 <;> omega
      have e2 : ((q : Int) - (t : Int)) / (36 - (t : Int)) = (z : Int) := by rw [hz, Int.natCast_ediv]; congr 1 <;> omega
      rw [← hrm, ← hz] at hq2
      rw [← hrm] at hmod
      rw [← hz] at hnl hdv
      have HL : Hid (∀ w', Calls Try.prog 31 #[.int .i64 ((t : Int) + (r : Int))] w' fun e w2 => e = .returned (.int .u8 ((letter (t + r)).toNat : Int)) ∧ w2 = w') := fun w' => by
        have := letter_calls (t + r) w' (by omega)
        rwa [Int.natCast_add] at this
      generalize letter (t + r) = x at *
      obtain ⟨v', w', hr, ho', hg⟩ := append_run (ho.alloc (.cells #[.int .u8 (x.toNat : Int)] 5)) (Row.lit fb wr [x] 5 (0, 0) (by simp)) (by simp; omega) (by have := HSz.out; simp; omega)
      have HO2 := hid ho'
      have HB2 := hid ((hbw.alloc HSz.out (.cells #[.int .u8 (x.toNat : Int)] 5)).grown hg (by have := HSz.out; simp; omega) (Own.lt ho))
      have g1 : (t : Int) ≤ (q : Int) := by omega
      have g2 : ¬ (q : Int) < (t : Int) := by omega
      have t3 : (1 : Int) ≤ (t : Int) := by omega
      have t4 : (t : Int) ≤ 26 := by omega
      have r0 : (0 : Int) ≤ (r : Int) := by omega
      have r1 : (r : Int) < 36 := by omega
      have HR : Hid (F = (ys ++ [x]) ++ (numF g (k + 36) bias z).map letter ∧ z < 2 ^ g ∧ z ≤ 3000000000 ∧ k + 36 + 36 * g ≤ 2340 ∧ (ys ++ [x]).length + g ≤ 500064 ∧ z < q) := ⟨hq2, hnl, by omega, by omega, by simp; omega, by omega⟩
      clear ho' hg ho hbw hq hf hqm hkf hyl hlt t1 t2 hq2 hnl hdv hmod hrm hz
      go_wp2_with fail
      refine (HT.out _).mono ?_
      rintro e w1 ⟨rfl, rfl⟩
      go_wp2_with fail
      refine (HL.out _).mono ?_
      rintro e w1 ⟨rfl, rfl⟩
      go_wp2_with (at_builtin; go_must (refine wpList_append_run hr rfl _ _ rfl rfl rfl rfl ?_))
      go_roundw
      case rel => exact ⟨ys ++ [x], z, k + 36, g, by rw [e2], by go_num, HO2.out, HB2.out, HR.out.1, HR.out.2.1, HR.out.2.2.1, HR.out.2.2.2.1, HR.out.2.2.2.2.1⟩
      case measure => have := HR.out.2.2.2.2.2; simp [intOf, e2]; omega
end Go.Proofs.Ytpjajiilgojbgaa
