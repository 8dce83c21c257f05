/- The document's parts and Ends. -/
import Derived.Test.YtghhdccnocpobaaDoorIpF
import Derived.Test.YtghhdccnocpobaaDoorIpB
namespace Go.Proofs.YtghhdccnocpobaaDoor
open Go.RowKit
set_option linter.unusedVariables false
set_option maxRecDepth 20000
theorem Row.upto {α : Type} {f : α → Value} {w : World} {a : Option Addr} {n cap : Nat} {l : List α} (h : Row f w (.slice a n cap) l) (k : Nat) (hk : k ≤ l.length) : Row f w (.slice a k cap) (l.take k) := by
  obtain ⟨a', cap', he, h1, h2, h3⟩ := h
  injection he with e1 e2 e3
  subst e1 e2 e3
  have hl : (l.take k).length = k := by rw [List.length_take]; omega
  refine ⟨a, cap, by rw [hl], by omega, h2, fun hne => ?_⟩
  obtain ⟨b, off, e, hlt, hc⟩ := h3 (by intro e; rw [e] at hne; simp at hne)
  refine ⟨b, off, e, hlt, fun i hi => ?_⟩
  rw [hl] at hi
  rw [hc i (by omega)]
  congr 1
  rw [List.getElem_take]
/-- A row that is not empty, opened at its last. -/
theorem Row.lastAt {α : Type} {f : α → Value} {w : World} {v : Value} {l : List α} (h : Row f w v l) (hne : l ≠ []) : ∃ m b off cap q, l.length = m + 1 ∧ l.getLast? = some q ∧ v = .slice (some ⟨b, off, none⟩) (m + 1) cap ∧ m + 1 ≤ cap ∧ cap ≤ maxLen ∧ w.cell? ⟨b, off + m, none⟩ = some (f q) := by
  obtain ⟨a, cap, rfl, h1, h2, h3⟩ := h
  obtain ⟨b, off, rfl, hlt, hc⟩ := h3 hne
  have hp : 0 < l.length := List.length_pos_iff.2 hne
  obtain ⟨m, hm⟩ : ∃ m, l.length = m + 1 := ⟨l.length - 1, by omega⟩
  refine ⟨m, b, off, cap, l[m]'(by omega), hm, ?_, by rw [hm], by omega, h2, hc m (by omega)⟩
  have e : l.length - 1 = m := by omega
  rw [List.getLast?_eq_getElem?, e]
  exact List.getElem?_eq_getElem (by omega)
theorem splitR_len (s : ByteArray) : (splitR 46 s.data.toList).length ≤ s.size + 1 := by
  have := splitG_len 46 s.data.toList []
  rw [bytes_num] at this
  exact this
set_option maxHeartbeats 1000000 in
theorem parts_calls (s : ByteArray) (w : World) (hs : s.size ≤ 100000) :
    Calls Tryd.prog 24 #[.string s] w fun e w' => (∃ v, e = .returned v ∧ SRow w' v (partsR s.data.toList)) ∧ Below w.heap.size w w' := by
  have HS := hid hs
  have HL := hid (splitR_len s)
  have HP : Hid (partsR s.data.toList = if 1 < (splitR 46 s.data.toList).length ∧ (splitR 46 s.data.toList).getLast? = some [] then (splitR 46 s.data.toList).dropLast else splitR 46 s.data.toList) := rfl
  have HNE := hid (splitR_ne 46 s.data.toList)
  clear hs
  go_enter Tryd.func24, Tryd.ntmps24
  go_wp2_with fail
  refine (split_calls s 46 _ HS.out).mono ?_
  rintro e w1 ⟨⟨v, rfl, hv⟩, hb⟩
  have HB := hid hb
  have HV := hid hv
  generalize splitR 46 s.data.toList = ps at *
  obtain ⟨m, b, off, cap, q, hm, hq, rfl, hc1, hc2, hcell⟩ := hv.lastAt HNE.out
  have hml : m ≤ 100000 := by have := HL.out; have := HS.out; omega
  have k4 := strOf_list q
  have HM := hid hm
  have HQ := hid hq
  unfold maxLen at hc2
  have hcap0 : (cap = 0) = False := by rw [eq_iff_iff]; constructor; intro e; omega; exact False.elim
  clear hv hb hm hq
  by_cases h1 : 0 < m
  · by_cases hqe : q = []
    · have HX : Hid (partsR s.data.toList = ps.take m) := by
        show _ = _
        rw [HP.out, if_pos ⟨by rw [HM.out]; omega, by rw [HQ.out, hqe]⟩, List.dropLast_eq_take, HM.out]
        rfl
      have HR := hid (HV.out.upto m (by rw [HM.out]; omega))
      have m1 : (1 : Int) < (m : Int) + 1 := by omega
      have q1 : (q == []) = true := by rw [hqe]; rfl
      have q2 : q.isEmpty = true := by rw [hqe]; rfl
      subst hqe
      clear HP HNE HL h1
      go_wp2_with fail
      go_ret
      exact ⟨⟨_, rfl, by rw [HX.out]; exact HR.out⟩, HB.out⟩
    · have HX : Hid (partsR s.data.toList = ps) := by
        show _ = _
        rw [HP.out, if_neg (fun h => hqe (by rw [HQ.out] at h; exact Option.some.inj h.2))]
      have m1 : (1 : Int) < (m : Int) + 1 := by omega
      have q1 : (q == []) = false := beq_eq_false_iff_ne.2 hqe
      have q2 : q.isEmpty = false := by cases q with | nil => exact absurd rfl hqe | cons x r => rfl
      clear HP HNE HL h1 hqe
      go_wp2_with fail
      go_ret
      exact ⟨⟨_, rfl, by rw [HX.out]; exact HV.out⟩, HB.out⟩
  · have HX : Hid (partsR s.data.toList = ps) := by
      show _ = _
      rw [HP.out, if_neg (fun h => h1 (by rw [HM.out] at h; omega))]
    have m1 : ¬ (1 : Int) < (m : Int) + 1 := by omega
    clear HP HNE HL h1
    go_wp2_with fail
    go_ret
    exact ⟨⟨_, rfl, by rw [HX.out]; exact HV.out⟩, HB.out⟩
theorem mem_split {sep : UInt8} : ∀ (l acc : List UInt8) (p : List UInt8), p ∈ splitG sep acc l → p.length ≤ acc.length + l.length
  | [], acc, p, h => by rw [splitG_nil, List.mem_singleton] at h; rw [h]; simp
  | c :: r, acc, p, h => by
    by_cases hc : c = sep
    · subst hc
      rw [splitG_sep] at h
      rcases List.mem_cons.1 h with rfl | h
      · omega
      · have := mem_split r [] p h; simp at this ⊢; omega
    · rw [splitG_other hc] at h
      have := mem_split r _ p h
      rw [List.length_append] at this
      simp at this ⊢
      omega
theorem mem_parts {l p : List UInt8} (h : p ∈ partsR l) : p.length ≤ l.length := by
  have hs : p ∈ splitR 46 l := by
    unfold partsR at h
    split at h
    · exact List.dropLast_subset _ h
    · exact h
  have := mem_split l [] p hs
  simpa using this
theorem parts_len (l : List UInt8) : (partsR l).length ≤ l.length + 1 := by
  have := splitG_len 46 l []
  unfold partsR splitR
  split
  · rw [List.length_dropLast]; omega
  · exact this
set_option maxHeartbeats 1000000 in
theorem ends_calls (s : ByteArray) (w : World) (hs : s.size ≤ 100000) :
    Calls Tryd.prog 15 #[.string s] w fun e w' => e = .returned (.bool (endsR s.data.toList)) ∧ Below w.heap.size w w' := by
  have HS := hid hs
  have HNE := hid (parts_ne s.data.toList)
  have HL := hid (parts_len s.data.toList)
  obtain ⟨R, hR⟩ : ∃ R, endsR s.data.toList = R := ⟨_, rfl⟩
  rw [hR]
  unfold endsR lastR at hR
  have HR := hid hR
  have HMem := hid (fun p (h : p ∈ partsR s.data.toList) => mem_parts h)
  have HLN := hid (bytes_num s)
  clear hs hR
  go_enter Tryd.func15, Tryd.ntmps15
  go_wp2_with fail
  refine (parts_calls s _ HS.out).mono ?_
  rintro e w1 ⟨⟨v, rfl, hv⟩, hb⟩
  have HB := hid hb
  generalize partsR s.data.toList = ps at *
  obtain ⟨m, b, off, cap, q, hm, hq, rfl, hc1, hc2, hcell⟩ := hv.lastAt HNE.out
  have hml : m ≤ 100000 := by have := HL.out; have := HLN.out; have := HS.out; omega
  have HQL : Hid (q.length ≤ 100000) := by
    have h1 := HMem.out q (List.mem_of_getLast? hq)
    have h2 := HLN.out
    have h3 := HS.out
    show q.length ≤ 100000
    omega
  rw [hm, hq] at HR
  have k4 := strOf_list q
  unfold maxLen at hc2
  simp only [Option.getD_some] at HR
  have h10 := hid (digits_calls (strOf q) 10)
  have hhx := hid (hex_calls (strOf q))
  rw [str_data] at h10 hhx
  clear hv hb hm hq HMem HL HNE HLN
  by_cases hqe : q = []
  · subst hqe
    by_cases h0 : m = 0
    · have HX : Hid (R = false) := by show R = false; rw [← HR.out, if_pos ⟨by omega, rfl⟩]
      have e1 : ((m : Int) + 1 == 1) = true := by rw [h0]; rfl
      clear HR h0
      go_wp2_with fail
      go_ret
      exact ⟨by rw [HX.out]; rfl, HB.out⟩
    · have HX : Hid (R = false) := by show R = false; rw [← HR.out, if_neg (fun h => h0 (by omega))]; rfl
      have e1 : ((m : Int) + 1 == 1) = false := by rw [beq_eq_false_iff_ne]; omega
      rw [show hexR [] = false from rfl] at hhx
      clear HR h0
      go_wp2_with fail
      refine (hhx.out _ (by show 0 ≤ 100000; decide)).mono ?_
      rintro e wz ⟨rfl, rfl⟩
      go_wp2_with fail
      go_ret
      exact ⟨by rw [HX.out]; rfl, HB.out⟩
  · have q1 : (q == []) = false := beq_eq_false_iff_ne.2 hqe
    have q2 : q.isEmpty = false := by cases q with | nil => exact absurd rfl hqe | cons x r => rfl
    have HX0 : Hid (R = (digsR 10 q || (hexR q && digsR 16 (q.drop 2)))) := by
      show R = _
      rw [← HR.out, if_neg (fun h => hqe h.2), q2]
      rfl
    have hme : ((m : Int) + 1 == 1) = true ∨ ((m : Int) + 1 == 1) = false := by
      cases h : ((m : Int) + 1 == 1) with
      | true => exact .inl rfl
      | false => exact .inr rfl
    clear HR hqe
    cases hd : digsR 10 q with
    | true =>
      rw [hd] at h10
      have HX : Hid (R = true) := by show R = true; rw [HX0.out, hd]; rfl
      clear HX0 hd
      rcases hme with e1 | e1
      all_goals
        go_wp2_with fail
        refine (h10.out _ HQL.out (by decide)).mono ?_
        rintro e wz ⟨rfl, rfl⟩
        go_wp2_with fail
        go_ret
        exact ⟨by rw [HX.out]; rfl, HB.out⟩
    | false =>
      rw [hd] at h10
      cases hh : hexR q with
      | false =>
        rw [hh] at hhx
        have HX : Hid (R = false) := by show R = false; rw [HX0.out, hd, hh]; rfl
        clear HX0 hd hh
        rcases hme with e1 | e1
        all_goals
          go_wp2_with fail
          refine (h10.out _ HQL.out (by decide)).mono ?_
          rintro e wz ⟨rfl, rfl⟩
          go_wp2_with fail
          refine (hhx.out _ HQL.out).mono ?_
          rintro e wz ⟨rfl, rfl⟩
          go_wp2_with fail
          go_ret
          exact ⟨by rw [HX.out]; rfl, HB.out⟩
      | true =>
        rw [hh] at hhx
        have h2 : 2 ≤ q.length := hexR_two (s := strOf q) hh
        obtain ⟨r1, r2⟩ := drop_data (strOf q) 2 h2
        rw [str_data] at r1
        have h16 := hid (digits_calls ((strOf q).extract 2 (strOf q).size) 16)
        rw [r1] at h16
        have HTS : Hid (((strOf q).extract 2 (strOf q).size).size ≤ 100000) := by
          show ((strOf q).extract 2 (strOf q).size).size ≤ 100000
          rw [r2, str_size]
          have := HQL.out
          omega
        have HX : Hid (R = digsR 16 (q.drop 2)) := by show R = _; rw [HX0.out, hd, hh]; rfl
        have p2 : (2 : Int) ≤ ((strOf q).size : Int) := by rw [str_size]; omega
        have p3 : ((strOf q).size : Int) ≤ 100000 := by rw [str_size]; have := HQL.out; omega
        clear HX0 hd hh r1 r2 h2
        generalize digsR 16 (q.drop 2) = D at *
        rcases hme with e1 | e1
        all_goals
          go_wp2_with fail
          refine (h10.out _ HQL.out (by decide)).mono ?_
          rintro e wz ⟨rfl, rfl⟩
          go_wp2_with fail
          refine (hhx.out _ HQL.out).mono ?_
          rintro e wz ⟨rfl, rfl⟩
          go_wp2_with fail
          refine (h16.out _ HTS.out (by decide)).mono ?_
          rintro e wz ⟨rfl, rfl⟩
          go_wp2_with fail
          go_ret
          exact ⟨by rw [HX.out]; rfl, HB.out⟩
end Go.Proofs.YtghhdccnocpobaaDoor
