/- The program's parts and Ends. -/
import Derived.Test.YtghhdccnocpobaaDoorIpWc
import Derived.Test.YtghhdccnocpobaaDoorIpG
namespace Go.Proofs.YtghhdccnocpobaaDoor
open Go.RowKit
set_option linter.unusedVariables false
set_option maxRecDepth 20000
set_option maxHeartbeats 1000000 in
theorem pparts_calls (s : ByteArray) (w : World) (hs : s.size ≤ 100000) :
    Calls Tryd.prog 21 #[.string s] w fun e w' => (∃ v, e = .returned v ∧ SRow w' v (partsR s.data.toList)) ∧ Below w.heap.size w w' := by
  have HS := hid hs
  have HL := hid (splitR_len s)
  have HP : Hid (partsR s.data.toList = if 1 < (splitR 46 s.data.toList).length ∧ (splitR 46 s.data.toList).getLast? = some [] then (splitR 46 s.data.toList).dropLast else splitR 46 s.data.toList) := rfl
  have HNE := hid (splitR_ne 46 s.data.toList)
  clear hs
  go_enter Tryd.func21, Tryd.ntmps21
  go_wp2_with fail
  refine (psplit_calls s _ (by have := HS.out; omega)).mono ?_
  rintro e w1 ⟨⟨v, rfl, hv⟩, hb⟩
  have HB := hid hb
  have HV := hid hv
  generalize splitR 46 s.data.toList = ps at *
  obtain ⟨m, b, off, cap, q, hm, hq, rfl, hc1, hc2, hcell⟩ := hv.lastAt HNE.out
  have hml : m ≤ 100000 := by have := HL.out; have := HS.out; omega
  have k4 := strOf_list q
  have HM := hid hm
  have HQ := hid hq
  unfold maxLen at hc2
  have hcap0 : (cap = 0) = False := by rw [eq_iff_iff]; constructor; intro e; omega; exact False.elim
  clear hv hb hm hq
  by_cases h1 : 0 < m
  · by_cases hqe : q = []
    · have HX : Hid (partsR s.data.toList = ps.take m) := by
        show _ = _
        rw [HP.out, if_pos ⟨by rw [HM.out]; omega, by rw [HQ.out, hqe]⟩, List.dropLast_eq_take, HM.out]
        rfl
      have HR := hid (HV.out.upto m (by rw [HM.out]; omega))
      have m1 : (0 : Int) < (m : Int) := by omega
      have q1 : (q == []) = true := by rw [hqe]; rfl
      have q2 : q.isEmpty = true := by rw [hqe]; rfl
      subst hqe
      clear HP HNE HL h1
      go_wp2_with fail
      go_ret
      exact ⟨⟨_, rfl, by rw [HX.out]; exact HR.out⟩, HB.out⟩
    · have HX : Hid (partsR s.data.toList = ps) := by
        show _ = _
        rw [HP.out, if_neg (fun h => hqe (by rw [HQ.out] at h; exact Option.some.inj h.2))]
      have m1 : (0 : Int) < (m : Int) := by omega
      have q1 : (q == []) = false := beq_eq_false_iff_ne.2 hqe
      have q2 : q.isEmpty = false := by cases q with | nil => exact absurd rfl hqe | cons x r => rfl
      clear HP HNE HL h1 hqe
      go_wp2_with fail
      go_ret
      exact ⟨⟨_, rfl, by rw [HX.out]; exact HV.out⟩, HB.out⟩
  · have HX : Hid (partsR s.data.toList = ps) := by
      show _ = _
      rw [HP.out, if_neg (fun h => h1 (by rw [HM.out] at h; omega))]
    have m1 : ¬ (0 : Int) < (m : Int) := by omega
    clear HP HNE HL h1
    go_wp2_with fail
    go_ret
    exact ⟨⟨_, rfl, by rw [HX.out]; exact HV.out⟩, HB.out⟩
/- The last part, told by the last point. -/
theorem splitG_app (c : UInt8) : ∀ (a acc b : List UInt8), splitG c acc (a ++ c :: b) = splitG c acc a ++ splitG c [] b
  | [], acc, b => by rw [List.nil_append, splitG_sep, splitG_nil]; rfl
  | x :: r, acc, b => by
    by_cases h : x = c
    · subst h; rw [List.cons_append, splitG_sep, splitG_sep, splitG_app x r [] b]; rfl
    · rw [List.cons_append, splitG_other h, splitG_other h, splitG_app c r _ b]
theorem splitR_app (c : UInt8) (a b : List UInt8) : splitR c (a ++ c :: b) = splitR c a ++ splitR c b := splitG_app c a [] b
theorem splitR_free {c : UInt8} {l : List UInt8} (h : ∀ x ∈ l, x ≠ c) : splitR c l = [l] := splitG_free l [] h
/-- What stands behind the last sign. -/
def tailOf (c : UInt8) (l : List UInt8) : List UInt8 := (splitR c l).getLast?.getD []
theorem tail_app {c : UInt8} (a : List UInt8) {b : List UInt8} (h : ∀ x ∈ b, x ≠ c) : tailOf c (a ++ c :: b) = b := by
  unfold tailOf
  rw [splitR_app, splitR_free h]
  simp
theorem tail_free {c : UInt8} {l : List UInt8} (h : ∀ x ∈ l, x ≠ c) : tailOf c l = l := by
  unfold tailOf
  rw [splitR_free h]
  rfl
theorem byte_int (s : ByteArray) (j : Nat) (hj : j < s.size) : ((s.data[j]!).toNat : Int) = (s[j].toNat : Int) := by
  have : s.data[j]! = s[j] := by
    show s.data[j]! = s.data[j]
    exact getElem!_pos s.data j hj
  rw [this]
theorem last_tail (s : ByteArray) : ∃ k : Nat, Lib.lastIndexByte s 46 + 1 = (k : Int) ∧ k ≤ s.size ∧ s.data.toList.drop k = tailOf 46 s.data.toList := by
  have hne : ∀ {x : UInt8}, (x.toNat : Int) ≠ 46 → x ≠ 46 := fun h e => h (by rw [e]; rfl)
  rcases Lib.lastIdx_spec s 46 s.size with ⟨h1, h2⟩ | ⟨i, hi, h1, h2, h3⟩
  · refine ⟨0, by unfold Lib.lastIndexByte; rw [h1]; rfl, Nat.zero_le _, ?_⟩
    rw [List.drop_zero, tail_free]
    intro x hx
    obtain ⟨j, hj, e⟩ := List.mem_iff_getElem.1 hx
    have hj' : j < s.size := by rw [← bytes_num]; exact hj
    have := h2 j hj'
    rw [byte_int s j hj'] at this
    rw [← e]
    exact hne this
  · refine ⟨i + 1, by unfold Lib.lastIndexByte; rw [h1]; rfl, by omega, ?_⟩
    have hil : i < s.data.toList.length := by rw [bytes_num]; exact hi
    have hc : s.data.toList[i]? = some 46 := by
      rw [List.getElem?_eq_getElem hil]
      rw [byte_int s i hi] at h2
      exact congrArg some (UInt8.toNat_inj.1 (show s[i].toNat = 46 by omega))
    conv => rhs; rw [at_parts hc]
    rw [tail_app]
    intro x hx
    obtain ⟨j, hj, e⟩ := List.mem_iff_getElem.1 hx
    rw [List.length_drop, bytes_num] at hj
    have := h3 (i + 1 + j) (by omega) (by omega)
    rw [byte_int s (i + 1 + j) (by omega)] at this
    rw [← e, List.getElem_drop]
    exact hne this
theorem trim_hit (a : List UInt8) : Lib.trimSuffix (a ++ [46]) [46] = a := by
  have h : Lib.hasSuffix (a ++ [46]) [46] = true := by unfold Lib.hasSuffix; rw [List.isSuffixOf_iff_suffix]; exact ⟨a, rfl⟩
  unfold Lib.trimSuffix
  rw [if_pos h]
  simp
theorem trim_miss {l : List UInt8} (h : l.getLast? ≠ some 46) : Lib.trimSuffix l [46] = l := by
  unfold Lib.trimSuffix
  rw [if_neg]
  intro hs
  unfold Lib.hasSuffix at hs
  rw [List.isSuffixOf_iff_suffix] at hs
  obtain ⟨t, e⟩ := hs
  exact h (by rw [← e]; simp)
theorem lastR_trim (l : List UInt8) : lastR l = tailOf 46 (Lib.trimSuffix l [46]) := by
  rcases List.eq_nil_or_concat l with h | ⟨a, c, h⟩
  · subst h; rfl
  · rw [List.concat_eq_append] at h
    by_cases hc : c = 46
    · subst hc
      rw [h, trim_hit]
      unfold lastR partsR
      rw [show splitR 46 (a ++ [46]) = splitR 46 a ++ [[]] from splitR_app 46 a []]
      have hne : (splitR 46 a).length ≠ 0 := fun e => splitR_ne 46 a (List.eq_nil_of_length_eq_zero e)
      rw [if_pos ⟨by rw [List.length_append]; simp; omega, by simp⟩, List.dropLast_concat]
      rfl
    · rw [trim_miss (by rw [h]; simpa using hc)]
      have hp : partsR l = splitR 46 l := by
        unfold partsR
        rw [if_neg]
        intro ⟨h1, h2⟩
        rcases Classical.em (∀ x ∈ l, x ≠ 46) with hf | hf
        · rw [splitR_free hf] at h1; simp at h1
        · have hex : ∃ x, x ∈ l ∧ x = 46 := Classical.byContradiction fun hn => hf (fun x hx e => hn ⟨x, hx, e⟩)
          obtain ⟨k, hk, hkc, hck⟩ := last_tail (strOf l)
          rw [str_data] at hck
          have ht : tailOf 46 l = [] := by unfold tailOf; rw [h2]; rfl
          rw [ht] at hck
          have hkl : k = l.length := by
            have := congrArg List.length hck
            rw [List.length_drop] at this
            rw [str_size] at hkc
            simp at this
            omega
          have hi : Lib.lastIdx (strOf l) 46 (strOf l).size = ((l.length : Nat) : Int) - 1 := by
            unfold Lib.lastIndexByte at hk
            omega
          rcases Lib.lastIdx_spec (strOf l) 46 (strOf l).size with ⟨g1, _⟩ | ⟨i, gi, g1, g2, _⟩
          · rw [g1] at hi
            have hl0 : l.length = a.length + 1 := by rw [h]; simp
            omega
          · have hi2 : i = a.length := by
              have hl0 : l.length = a.length + 1 := by rw [h]; simp
              omega
            rw [byte_int _ i gi] at g2
            have hl : l[i]? = some (strOf l)[i] := bytes_at (strOf l) i gi
            generalize (strOf l)[i] = y at hl g2
            rw [h, hi2] at hl
            simp at hl
            exact hc (by rw [hl]; exact UInt8.toNat_inj.1 (show y.toNat = 46 by omega))
      unfold lastR tailOf
      rw [hp]
theorem hexR_dec {l : List UInt8} (h : hexR l = true) : digsR 10 l = false := by
  match l, h with
  | a :: b :: r, h =>
    have h' : (a == 48 && (b == 120 || b == 88)) = true := h
    simp only [Bool.and_eq_true, Bool.or_eq_true, beq_iff_eq] at h'
    obtain ⟨rfl, hb⟩ := h'
    unfold digsR
    rw [List.all_cons, List.all_cons]
    rcases hb with rfl | rfl
    · rfl
    · rfl
theorem endsR_of (l : List UInt8) : endsR l = if hexR (lastR l) = true then digsR 16 ((lastR l).drop 2) else (!(lastR l).isEmpty && digsR 10 (lastR l)) := by
  unfold endsR
  generalize lastR l = q
  by_cases h0 : q = []
  · subst h0
    rw [if_neg (show ¬ hexR ([] : List UInt8) = true by decide)]
    by_cases h1 : (partsR l).length = 1 ∧ ([] : List UInt8) = []
    · rw [if_pos h1]; rfl
    · rw [if_neg h1]; rfl
  · rw [if_neg (fun h => h0 h.2)]
    cases hh : hexR q with
    | true => rw [hexR_dec hh]; simp
    | false => simp
set_option maxHeartbeats 1000000 in
theorem ien_calls (s : ByteArray) (w : World) (hs : s.size ≤ 100000) : Calls Tryd.prog 14 #[.string s] w fun e w' => e = .returned (.bool (endsR s.data.toList)) ∧ Below w.heap.size w w' := by
  have HR := hid (endsR_of s.data.toList)
  rw [lastR_trim] at HR
  have ht : (Lib.trimSuffix s.data.toList [46]).length ≤ s.size := by
    unfold Lib.trimSuffix
    split
    · rw [List.length_take, bytes_num]; omega
    · rw [bytes_num]; exact Nat.le_refl _
  have HT := hid (fun w => ptrim_calls s w (by omega))
  generalize Lib.trimSuffix s.data.toList [46] = T at *
  generalize endsR s.data.toList = R at *
  have HL := hid (fun w => plast_calls (strOf T) w (by rw [str_size]; omega))
  obtain ⟨k, hk, hkl, hdrop⟩ := last_tail (strOf T)
  rw [str_data] at hdrop
  rw [str_size] at hkl
  have hq : (strOf T).extract k (strOf T).size = strOf (tailOf 46 T) := by
    rw [ext_drop _ k (by rw [str_size]; exact hkl), str_data, hdrop]
  have hql : (tailOf 46 T).length ≤ 100000 := by rw [← hdrop, List.length_drop]; omega
  generalize tailOf 46 T = q at *
  have HM := hid (fun w => pmark_calls (strOf q) w (by rw [str_size]; exact hql))
  rw [str_data] at HM
  have k0 : (0 : Int) ≤ (k : Int) := by omega
  have k1 : (k : Int) ≤ ((strOf T).size : Int) := by rw [str_size]; omega
  have k2 : ((strOf T).size : Int) ≤ 100000 := by rw [str_size]; omega
  have k3 : Lib.lastIndexByte (strOf T) 46 = (k : Int) - 1 := by omega
  rw [k3] at HL
  have A16 := hid (fun w => pall_calls (strOf (q.drop 2)) 16 w (by rw [str_size, List.length_drop]; omega) (by decide) (by decide))
  have A10 := hid (fun w => pall_calls (strOf q) 10 w (by rw [str_size]; exact hql) (by decide) (by decide))
  rw [str_data] at A16 A10
  have q4 := strOf_list q
  clear hk hkl hdrop ht hs k3
  generalize strOf T = t at *
  cases hh : hexR q with
  | true =>
    rw [hh, if_pos rfl] at HR
    rw [markP_yes hh] at HM
    clear hh A10 q4 hql
    rw [← HR.out] at A16
    simp only at HM
    generalize strOf (q.drop 2) = u at *
    generalize strOf q = v at *
    go_enter Tryd.func14, Tryd.ntmps14
    go_wp2_with fail
    refine (HT.out _).mono ?_
    rintro e wz ⟨rfl, rfl⟩
    go_wp2_with fail
    refine (HL.out _).mono ?_
    rintro e wz ⟨rfl, rfl⟩
    go_wp2_with fail
    refine (HM.out _).mono ?_
    rintro e wz ⟨rfl, rfl⟩
    go_wp2_with fail
    refine (A16.out _).mono ?_
    rintro e wz ⟨rfl, rfl⟩
    go_wp2_with fail
    go_ret
    exact ⟨rfl, Below.refl _ _⟩
  | false =>
    rw [hh, if_neg (by decide)] at HR
    rw [markP_no hh] at HM
    clear hh A16
    simp only at HM
    generalize digsR 10 q = d at *
    by_cases h0 : q = []
    · have HF : Hid (R = false) := by show R = false; rw [HR.out, h0]; rfl
      have e1 : q.isEmpty = true := by rw [h0]; rfl
      clear HR h0 A10 hql
      generalize strOf q = v at *
      go_enter Tryd.func14, Tryd.ntmps14
      go_wp2_with fail
      refine (HT.out _).mono ?_
      rintro e wz ⟨rfl, rfl⟩
      go_wp2_with fail
      refine (HL.out _).mono ?_
      rintro e wz ⟨rfl, rfl⟩
      go_wp2_with fail
      refine (HM.out _).mono ?_
      rintro e wz ⟨rfl, rfl⟩
      go_wp2_with fail
      go_ret
      exact ⟨by rw [HF.out]; rfl, Below.refl _ _⟩
    · have e1 : q.isEmpty = false := by cases q with | nil => exact absurd rfl h0 | cons x r => rfl
      have HF : Hid (R = d) := by show R = d; rw [HR.out, e1]; rfl
      have e2 : (q == []) = false := beq_eq_false_iff_ne.2 h0
      clear HR h0 hql
      rw [HF.out]
      generalize strOf q = v at *
      go_enter Tryd.func14, Tryd.ntmps14
      go_wp2_with fail
      refine (HT.out _).mono ?_
      rintro e wz ⟨rfl, rfl⟩
      go_wp2_with fail
      refine (HL.out _).mono ?_
      rintro e wz ⟨rfl, rfl⟩
      go_wp2_with fail
      refine (HM.out _).mono ?_
      rintro e wz ⟨rfl, rfl⟩
      go_wp2_with fail
      refine (A10.out _).mono ?_
      rintro e wz ⟨rfl, rfl⟩
      go_wp2_with fail
      go_ret
      exact ⟨rfl, Below.refl _ _⟩
end Go.Proofs.YtghhdccnocpobaaDoor
