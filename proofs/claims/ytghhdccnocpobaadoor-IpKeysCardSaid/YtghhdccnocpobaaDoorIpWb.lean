/- The library's CutPrefix at 0x and at 0X; the program's cutMark and partNumber. -/
import Derived.Test.YtghhdccnocpobaaDoorIpWa
namespace Go.Proofs.YtghhdccnocpobaaDoor
open Go.RowKit
set_option linter.unusedVariables false
set_option maxRecDepth 20000
def preB (x : UInt8) (l : List UInt8) : Bool := l.take 2 == [48, x]
theorem ext_two (s : ByteArray) (h : 2 ≤ s.size) : (s.extract 0 2).toList = s.data.toList.take 2 := by
  rw [ByteArray.toList_eq, cut_mid s 0 2 h]
  rfl
theorem ext_drop (s : ByteArray) (k : Nat) (h : k ≤ s.size) : s.extract k s.size = strOf (s.data.toList.drop k) := by
  rw [cut_mid s k s.size (Nat.le_refl _), List.take_of_length_le (by rw [List.length_drop, bytes_num]; omega)]
theorem pre_size {x : UInt8} {s : ByteArray} (h : preB x s.data.toList = true) : 2 ≤ s.size := by
  have h2 := congrArg List.length (beq_iff_eq.1 h)
  rw [List.length_take, bytes_num] at h2
  simp at h2
  omega
theorem hexR_pre (l : List UInt8) : hexR l = (preB 120 l || preB 88 l) := by
  match l with
  | [] => rfl
  | [a] => simp [hexR, preB]
  | a :: b :: r =>
    show (a == 48 && (b == 120 || b == 88)) = (([a, b] == [48, 120]) || ([a, b] == [48, 88]))
    have e : ∀ y : UInt8, ([a, b] == [48, y]) = (a == 48 && b == y) := fun y => by simp
    rw [e, e]
    cases a == 48 <;> simp
/-- What is behind the mark, and whether it is there. -/
def cutP (x : UInt8) (l : List UInt8) : List UInt8 × Bool := if preB x l = true then (l.drop 2, true) else (l, false)
set_option maxHeartbeats 1000000 in
theorem pcut120_calls (s : ByteArray) (w : World) (hs : s.size ≤ 100000) :
    Calls Tryd.prog 48 #[.string s, .string ⟨#[48, 120]⟩] w fun e w' => e = .returned (.tuple #[.string (strOf (cutP 120 s.data.toList).1), .bool (cutP 120 s.data.toList).2]) ∧ w' = w := by
  have s1 : (s.size : Int) ≤ 100000 := by omega
  have s3 : (s.size : Int) ≤ 9223372036854775807 := by omega
  have s2 : Hid (s = strOf s.data.toList) := of_data s
  obtain ⟨R, hR⟩ : ∃ R, R = cutP 120 s.data.toList := ⟨_, rfl⟩
  rw [← hR]
  by_cases h2 : 2 ≤ s.size
  · have e1 := ext_two s h2
    have hcut := ext_drop s 2 h2
    have g : (2 : Int) ≤ (s.size : Int) := by omega
    cases hm : preB 120 s.data.toList with
    | true =>
      have e2 : (s.data.toList.take 2 == [48, 120]) = true := hm
      have HX : Hid (R = (s.data.toList.drop 2, true)) := by show _ = _; rw [hR]; unfold cutP; rw [if_pos hm]
      have HX1 : Hid (strOf R.1 = strOf (s.data.toList.drop 2)) := by show _ = _; rw [HX.out]
      have HX2 : Hid (R.2 = true) := by show _ = _; rw [HX.out]
      generalize strOf (s.data.toList.drop 2) = t at *
      generalize s.data.toList.take 2 = T at *
      clear hR h2 hs hm HX
      go_enter Tryd.func48, Tryd.ntmps48
      go_wp2
      go_ret2
      exact ⟨by rw [HX1.out, HX2.out]; rfl, rfl⟩
    | false =>
      have e2 : (s.data.toList.take 2 == [48, 120]) = false := hm
      have HX : Hid (R = (s.data.toList, false)) := by show _ = _; rw [hR]; unfold cutP; rw [if_neg (by rw [hm]; decide)]
      have HX1 : Hid (strOf R.1 = s) := by show _ = _; rw [HX.out]; exact s2.out.symm
      have HX2 : Hid (R.2 = false) := by show _ = _; rw [HX.out]
      generalize s.data.toList.take 2 = T at *
      clear hR h2 hs hm hcut HX s2
      go_enter Tryd.func48, Tryd.ntmps48
      go_wp2
      go_ret2
      exact ⟨by rw [HX1.out, HX2.out]; rfl, rfl⟩
  · have g : ¬ (2 : Int) ≤ (s.size : Int) := by omega
    have HX : Hid (R = (s.data.toList, false)) := by
      show _ = _
      rw [hR]
      unfold cutP
      rw [if_neg (fun h => h2 (pre_size h))]
    have HX1 : Hid (strOf R.1 = s) := by show _ = _; rw [HX.out]; exact s2.out.symm
    have HX2 : Hid (R.2 = false) := by show _ = _; rw [HX.out]
    clear hR h2 hs HX s2
    go_enter Tryd.func48, Tryd.ntmps48
    go_wp2
    go_ret2
    exact ⟨by rw [HX1.out, HX2.out]; rfl, rfl⟩
set_option maxHeartbeats 1000000 in
theorem pcut88_calls (s : ByteArray) (w : World) (hs : s.size ≤ 100000) :
    Calls Tryd.prog 48 #[.string s, .string ⟨#[48, 88]⟩] w fun e w' => e = .returned (.tuple #[.string (strOf (cutP 88 s.data.toList).1), .bool (cutP 88 s.data.toList).2]) ∧ w' = w := by
  have s1 : (s.size : Int) ≤ 100000 := by omega
  have s3 : (s.size : Int) ≤ 9223372036854775807 := by omega
  have s2 : Hid (s = strOf s.data.toList) := of_data s
  obtain ⟨R, hR⟩ : ∃ R, R = cutP 88 s.data.toList := ⟨_, rfl⟩
  rw [← hR]
  by_cases h2 : 2 ≤ s.size
  · have e1 := ext_two s h2
    have hcut := ext_drop s 2 h2
    have g : (2 : Int) ≤ (s.size : Int) := by omega
    cases hm : preB 88 s.data.toList with
    | true =>
      have e2 : (s.data.toList.take 2 == [48, 88]) = true := hm
      have HX : Hid (R = (s.data.toList.drop 2, true)) := by show _ = _; rw [hR]; unfold cutP; rw [if_pos hm]
      have HX1 : Hid (strOf R.1 = strOf (s.data.toList.drop 2)) := by show _ = _; rw [HX.out]
      have HX2 : Hid (R.2 = true) := by show _ = _; rw [HX.out]
      generalize strOf (s.data.toList.drop 2) = t at *
      generalize s.data.toList.take 2 = T at *
      clear hR h2 hs hm HX
      go_enter Tryd.func48, Tryd.ntmps48
      go_wp2
      go_ret2
      exact ⟨by rw [HX1.out, HX2.out]; rfl, rfl⟩
    | false =>
      have e2 : (s.data.toList.take 2 == [48, 88]) = false := hm
      have HX : Hid (R = (s.data.toList, false)) := by show _ = _; rw [hR]; unfold cutP; rw [if_neg (by rw [hm]; decide)]
      have HX1 : Hid (strOf R.1 = s) := by show _ = _; rw [HX.out]; exact s2.out.symm
      have HX2 : Hid (R.2 = false) := by show _ = _; rw [HX.out]
      generalize s.data.toList.take 2 = T at *
      clear hR h2 hs hm hcut HX s2
      go_enter Tryd.func48, Tryd.ntmps48
      go_wp2
      go_ret2
      exact ⟨by rw [HX1.out, HX2.out]; rfl, rfl⟩
  · have g : ¬ (2 : Int) ≤ (s.size : Int) := by omega
    have HX : Hid (R = (s.data.toList, false)) := by
      show _ = _
      rw [hR]
      unfold cutP
      rw [if_neg (fun h => h2 (pre_size h))]
    have HX1 : Hid (strOf R.1 = s) := by show _ = _; rw [HX.out]; exact s2.out.symm
    have HX2 : Hid (R.2 = false) := by show _ = _; rw [HX.out]
    clear hR h2 hs HX s2
    go_enter Tryd.func48, Tryd.ntmps48
    go_wp2
    go_ret2
    exact ⟨by rw [HX1.out, HX2.out]; rfl, rfl⟩
def markP (l : List UInt8) : List UInt8 × Bool := if hexR l = true then (l.drop 2, true) else (l, false)
theorem markP_yes {l : List UInt8} (h : hexR l = true) : markP l = (l.drop 2, true) := if_pos h
theorem markP_no {l : List UInt8} (h : hexR l = false) : markP l = (l, false) := by unfold markP; rw [h]; rfl
set_option maxHeartbeats 1000000 in
theorem pmark_calls (s : ByteArray) (w : World) (hs : s.size ≤ 100000) :
    Calls Tryd.prog 30 #[.string s] w fun e w' => e = .returned (.tuple #[.string (strOf (markP s.data.toList).1), .bool (markP s.data.toList).2]) ∧ w' = w := by
  have C1 := hid (pcut120_calls s · hs)
  have C2 := hid (pcut88_calls s · hs)
  have HP := hexR_pre s.data.toList
  cases h1 : preB 120 s.data.toList with
  | true =>
    rw [h1, Bool.true_or] at HP
    rw [show cutP 120 s.data.toList = (s.data.toList.drop 2, true) from if_pos h1] at C1
    rw [markP_yes HP]
    generalize strOf (s.data.toList.drop 2, true).1 = t at *
    clear HP h1 C2 hs
    go_enter Tryd.func30, Tryd.ntmps30
    go_wp2_with fail
    refine (C1.out _).mono ?_
    rintro e wz ⟨rfl, rfl⟩
    go_wp2_with fail
    go_ret2
    exact ⟨rfl, rfl⟩
  | false =>
    rw [h1, Bool.false_or] at HP
    rw [show cutP 120 s.data.toList = (s.data.toList, false) from if_neg (by rw [h1]; decide)] at C1
    have HQ : cutP 88 s.data.toList = markP s.data.toList := by unfold cutP markP; rw [HP]
    rw [HQ] at C2
    generalize strOf (s.data.toList, false).1 = t at *
    generalize strOf (markP s.data.toList).1 = u at *
    generalize (markP s.data.toList).2 = b at *
    clear HP h1 hs HQ
    go_enter Tryd.func30, Tryd.ntmps30
    go_wp2_with fail
    refine (C1.out _).mono ?_
    rintro e wz ⟨rfl, rfl⟩
    go_wp2_with fail
    refine (C2.out _).mono ?_
    rintro e wz ⟨rfl, rfl⟩
    go_wp2_with fail
    go_ret2
    exact ⟨rfl, rfl⟩
/-- What a part's number is to the program: 4294967296 at most. -/
def partP (l : List UInt8) : Nat × Bool := match numR l with
  | none => (0, false)
  | some n => (min n 4294967296, true)
theorem partP_none {l : List UInt8} (h : numR l = none) : partP l = (0, false) := by unfold partP; rw [h]
theorem partP_some {l : List UInt8} {n : Nat} (h : numR l = some n) : partP l = (min n 4294967296, true) := by unfold partP; rw [h]
theorem partP_of {l m : List UInt8} {b : Nat} (hne : l ≠ []) (hb : baseR l = (m, b)) (h1 : 1 ≤ b) : numP b m = partP l := by
  have h := numR_of hne hb
  cases hd : digsR b m with
  | true =>
    rw [hd, if_pos rfl] at h
    rw [partP_some h, numP_yes hd, satR_val h1]
  | false =>
    rw [hd, if_neg (by decide)] at h
    rw [partP_none h, numP_no hd]
def PartPost (l : List UInt8) (w : World) (e : Ending) (w' : World) : Prop := e = .returned (.tuple #[.int .u64 ((partP l).1 : Int), .bool (partP l).2]) ∧ w' = w
set_option maxHeartbeats 2000000 in
theorem ppart_calls (s : ByteArray) (w : World) (hs : s.size ≤ 100000) : Calls Tryd.prog 22 #[.string s] w fun e w' => PartPost s.data.toList w e w' := by
  have s1 : (s.size : Int) ≤ 100000 := by omega
  by_cases h0 : s.size = 0
  · have e0 := empty_yes h0
    have HX : Hid (partP s.data.toList = (0, false)) := by show _ = _; rw [data_nil h0]; exact partP_none rfl
    unfold PartPost
    rw [HX.out]
    clear h0
    go_enter Tryd.func22, Tryd.ntmps22
    go_wp2_with fail
    go_ret2
    exact ⟨rfl, rfl⟩
  · obtain ⟨e0, e1⟩ := empty_no h0
    have hne := data_ne h0
    have HC := hid (pmark_calls s · hs)
    cases hh : hexR s.data.toList with
    | true =>
      rw [markP_yes hh] at HC
      have h2 := hexR_two hh
      have HN := hid (pnumber_calls (strOf (s.data.toList.drop 2)) 16 · (by rw [str_size, List.length_drop, bytes_num]; omega) (by decide) (by decide))
      unfold NPost at HN
      rw [str_data, partP_of hne (base_hex hh) (by decide)] at HN
      unfold PartPost
      generalize strOf (s.data.toList.drop 2, true).1 = t at *
      generalize partP s.data.toList = r at *
      clear hh h2 h0 hs hne
      go_enter Tryd.func22, Tryd.ntmps22
      go_wp2_with fail
      refine (HC.out _).mono ?_
      rintro e wz ⟨rfl, rfl⟩
      go_wp2_with fail
      refine (HN.out _).mono ?_
      rintro e wz ⟨rfl, rfl⟩
      go_wp2_with fail
      go_ret2
      exact ⟨rfl, rfl⟩
    | false =>
      rw [markP_no hh] at HC
      have hp : 0 < s.size := by omega
      have HHead := head_at hp
      by_cases ho : 1 < s.size ∧ (s[0]'hp).toNat = 48
      · obtain ⟨ho1, ho2⟩ := ho
        have hb := base_oct hh (by rw [bytes_num]; exact ho1) (by rw [HHead]; exact congrArg some (UInt8.toNat_inj.1 (by rw [ho2]; rfl)))
        have HN := hid (pnumber_calls (strOf (s.data.toList.drop 1)) 8 · (by rw [str_size, List.length_drop, bytes_num]; omega) (by decide) (by decide))
        unfold NPost at HN
        rw [str_data, partP_of hne hb (by decide)] at HN
        have hcut := ext_drop s 1 (by omega)
        have p1 : (1 : Int) < (s.size : Int) := by omega
        have p2 : (1 : Int) ≤ (s.size : Int) := by omega
        have p0 : (0 : Int) < (s.size : Int) := by omega
        have q2 : (((s[0]'hp).toNat : Int) == 48) = true := by rw [ho2]; rfl
        unfold PartPost
        generalize strOf (s.data.toList, false).1 = u at *
        generalize strOf (s.data.toList.drop 1) = t at *
        generalize partP s.data.toList = r at *
        clear hh h0 hs hne hb HHead ho1
        go_enter Tryd.func22, Tryd.ntmps22
        go_wp2_with fail
        refine (HC.out _).mono ?_
        rintro e wz ⟨rfl, rfl⟩
        go_wp2_with fail
        refine (HN.out _).mono ?_
        rintro e wz ⟨rfl, rfl⟩
        go_wp2_with fail
        go_ret2
        exact ⟨rfl, rfl⟩
      · have hb := base_ten hh (fun h => ho ⟨by rw [← bytes_num]; exact h.1, by rw [HHead] at h; rw [Option.some.inj h.2]; rfl⟩)
        have HN := hid (pnumber_calls s 10 · hs (by decide) (by decide))
        unfold NPost at HN
        rw [partP_of hne hb (by decide)] at HN
        have p0 : (0 : Int) < (s.size : Int) := by omega
        unfold PartPost
        generalize strOf (s.data.toList, false).1 = u at *
        generalize partP s.data.toList = r at *
        by_cases h1 : 1 < s.size
        · have p1 : (1 : Int) < (s.size : Int) := by omega
          have q2 : (((s[0]'hp).toNat : Int) == 48) = false := by
            rw [beq_eq_false_iff_ne]
            intro e
            exact ho ⟨h1, by omega⟩
          clear hh h0 hs hne hb HHead ho h1
          go_enter Tryd.func22, Tryd.ntmps22
          go_wp2_with fail
          refine (HC.out _).mono ?_
          rintro e wz ⟨rfl, rfl⟩
          go_wp2_with fail
          refine (HN.out _).mono ?_
          rintro e wz ⟨rfl, rfl⟩
          go_wp2_with fail
          go_ret2
          exact ⟨rfl, rfl⟩
        · have p1 : ¬ (1 : Int) < (s.size : Int) := by omega
          clear hh h0 hs hne hb HHead ho h1
          go_enter Tryd.func22, Tryd.ntmps22
          go_wp2_with fail
          refine (HC.out _).mono ?_
          rintro e wz ⟨rfl, rfl⟩
          go_wp2_with fail
          refine (HN.out _).mono ?_
          rintro e wz ⟨rfl, rfl⟩
          go_wp2_with fail
          go_ret2
          exact ⟨rfl, rfl⟩
end Go.Proofs.YtghhdccnocpobaaDoor
