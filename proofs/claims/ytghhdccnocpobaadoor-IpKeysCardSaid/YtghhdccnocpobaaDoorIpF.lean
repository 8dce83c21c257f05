/- The document's number. -/
import Derived.Test.YtghhdccnocpobaaDoorIpE
namespace Go.Proofs.YtghhdccnocpobaaDoor
open Go.RowKit
set_option linter.unusedVariables false
set_option maxRecDepth 20000
theorem empty_yes {s : ByteArray} (h : s.size = 0) : s.toList = [] := by
  rw [ByteArray.toList_eq]
  exact List.eq_nil_of_length_eq_zero (by rw [bytes_num]; exact h)
theorem empty_no {s : ByteArray} (h : s.size ≠ 0) : (s.toList == []) = false ∧ s.toList.isEmpty = false := by
  have hl : s.toList.length = s.size := by rw [ByteArray.toList_eq]; exact bytes_num s
  revert hl
  generalize s.toList = l
  intro hl
  match l, hl with
  | [], hl => exact absurd hl.symm h
  | a :: r, _ => exact ⟨rfl, rfl⟩
theorem data_nil {s : ByteArray} (h : s.size = 0) : s.data.toList = [] := List.eq_nil_of_length_eq_zero (by rw [bytes_num]; exact h)
theorem data_ne {s : ByteArray} (h : s.size ≠ 0) : s.data.toList ≠ [] := fun e => h (by rw [← bytes_num, e]; rfl)
theorem drop_data (s : ByteArray) (k : Nat) (h : k ≤ s.size) : (s.extract k s.size).data.toList = s.data.toList.drop k ∧ (s.extract k s.size).size = s.size - k := by
  constructor
  · rw [ByteArray.data_extract, Array.toList_extract, List.extract_eq_take_drop]
    rw [List.take_of_length_le (by rw [List.length_drop, bytes_num]; omega)]
  · rw [ByteArray.size_extract]; omega
theorem digs_at {t : ByteArray} {b k : Nat} (h : digsR b t.data.toList = true) (hk : k < t.size) : ∃ d, hexV t[k].toNat = some d ∧ d < b ∧ dgv t[k] = d := by
  unfold digsR at h
  have hl : k < t.data.toList.length := by rw [bytes_num]; exact hk
  have := List.all_eq_true.1 h t[k] (List.getElem_mem (l := t.data.toList) (n := k) hl)
  unfold digB at this
  cases hv : hexV t[k].toNat with
  | none => rw [hv] at this; cases this
  | some d => rw [hv] at this; exact ⟨d, rfl, by simpa using this, by unfold dgv; rw [hv]; rfl⟩
theorem valR_take {t : ByteArray} {b k : Nat} (hk : k < t.size) : valR b (t.data.toList.take (k + 1)) = min (valR b (t.data.toList.take k) * b + dgv t[k]) 1099511627776 := by
  have hl : k < t.data.toList.length := by rw [bytes_num]; exact hk
  rw [List.take_succ_eq_append_getElem hl, valR_snoc]
  rfl
theorem numR_of {l m : List UInt8} {b : Nat} (hne : l ≠ []) (hb : baseR l = (m, b)) : numR l = if digsR b m = true then some (valR b m) else none := by
  unfold numR
  rw [if_neg hne, hb]
/-- What number answers. -/
def NumPost (l : List UInt8) (w : World) (e : Ending) (w' : World) : Prop := e = .returned (.tuple #[.int .i64 (((numR l).getD 0 : Nat) : Int), .bool (numR l).isSome]) ∧ w' = w
theorem NumPost.no {l : List UInt8} {w : World} (h : numR l = none) : NumPost l w (.returned (.tuple #[.int .i64 0, .bool false])) w := by unfold NumPost; rw [h]; exact ⟨rfl, rfl⟩
theorem NumPost.yes {l : List UInt8} {w : World} {n : Nat} (h : numR l = some n) : NumPost l w (.returned (.tuple #[.int .i64 (n : Int), .bool true])) w := by unfold NumPost; rw [h]; exact ⟨rfl, rfl⟩
theorem base_hex {l : List UInt8} (h : hexR l = true) : baseR l = (l.drop 2, 16) := by unfold baseR; rw [if_pos h]
theorem base_oct {l : List UInt8} (h : hexR l = false) (h1 : 1 < l.length) (h2 : l.head? = some 48) : baseR l = (l.drop 1, 8) := by unfold baseR; rw [if_neg (by rw [h]; decide), if_pos ⟨h1, h2⟩]
theorem base_ten {l : List UInt8} (h : hexR l = false) (h1 : ¬ (1 < l.length ∧ l.head? = some 48)) : baseR l = (l, 10) := by unfold baseR; rw [if_neg (by rw [h]; decide), if_neg h1]
theorem hexR_two {s : ByteArray} (h : hexR s.data.toList = true) : 2 ≤ s.size := by
  by_cases h2 : 2 ≤ s.size
  · exact h2
  · rw [hexR_short h2] at h; cases h
theorem head_at {s : ByteArray} (h : 0 < s.size) : s.data.toList.head? = some s[0] := by
  have := bytes_at s 0 h
  rw [← this, List.head?_eq_getElem?]
set_option maxHeartbeats 4000000 in
theorem number_calls (s : ByteArray) (w : World) (hs : s.size ≤ 100000) : Calls Tryd.prog 25 #[.string s] w fun e w' => NumPost s.data.toList w e w' := by
  have s1 : (s.size : Int) ≤ 100000 := by omega
  by_cases h0 : s.size = 0
  · have e0 := empty_yes h0
    have HX : Hid (numR s.data.toList = none) := by show _ = _; rw [data_nil h0]; rfl
    clear h0
    go_enter Tryd.func25, Tryd.ntmps25
    go_wp2_with fail
    go_ret2
    exact NumPost.no HX.out
  · obtain ⟨e0, e1⟩ := empty_no h0
    have HNE := hid (data_ne h0)
    have HC := hid (hex_calls s)
    have HS := hid hs
    cases hh : hexR s.data.toList with
    | true =>
      rw [hh] at HC
      have h2 := hexR_two hh
      obtain ⟨r1, r2⟩ := drop_data s 2 h2
      have HB := hid (numR_of HNE.out (base_hex hh))
      have HNo : Hid (digsR 16 (s.extract 2 s.size).data.toList = false → numR s.data.toList = none) := fun h => by rw [HB.out, ← r1, h]; rfl
      have HYes : Hid (digsR 16 (s.extract 2 s.size).data.toList = true → numR s.data.toList = some (valR 16 (s.extract 2 s.size).data.toList)) := fun h => by rw [HB.out, ← r1, h]; rfl
      have HTS : Hid ((s.extract 2 s.size).size ≤ 100000) := by show (s.extract 2 s.size).size ≤ _; rw [r2]; omega
      have p2 : (2 : Int) ≤ (s.size : Int) := by omega
      clear r1 r2 hh h2 h0 hs
      go_enter Tryd.func25, Tryd.ntmps25
      go_wp2_with fail
      refine (HC.out _ HS.out).mono ?_
      rintro e wz ⟨rfl, rfl⟩
      go_wp2_with fail
      refine (digits_calls (s.extract 2 s.size) 16 _ HTS.out (by decide)).mono ?_
      rintro e wz ⟨rfl, rfl⟩
      generalize (s.extract 2 s.size) = t at *
      cases hd : digsR 16 t.data.toList with
      | false =>
        have HX := hid (HNo.out hd)
        clear hd
        go_wp2_with fail
        go_ret2
        exact NumPost.no HX.out
      | true =>
        have HX := hid (HYes.out hd)
        have HD := hid hd
        have t1 : (t.size : Int) ≤ 100000 := by have := HTS.out; omega
        clear hd
        go_wp2_with fail
        go_loop [5, 6] (fun vn vi => ∃ k : Nat, k ≤ t.size ∧ vi = .int .i64 (k : Int) ∧ vn = .int .i64 (valR 16 (t.data.toList.take k) : Nat)) (fun _ vi => t.size - (intOf vi).toNat)
        case atStart => exact ⟨0, Nat.zero_le _, rfl, rfl⟩
        case round =>
          obtain ⟨k, hk, rfl, rfl⟩ := hrel
          have k0 : (0 : Int) ≤ (k : Int) := by omega
          have hq := valR_le 16 (t.data.toList.take k)
          by_cases hlt : k < t.size
          · have HV := hid (valR_take (b := 16) hlt)
            obtain ⟨d, hv, hdb, hdv⟩ := digs_at HD.out hlt
            rw [hdv] at HV
            obtain ⟨z, hz⟩ : ∃ z, (t[k]'hlt).toNat = z := ⟨_, rfl⟩
            have z9 : z < 256 := by rw [← hz]; exact byte_lt _
            rw [hz] at hv
            have HC := hid (rdigit_calls z z9)
            rw [rd_some hv] at HC
            have k1 : (k : Int) < (t.size : Int) := by omega
            have HK := hid hlt
            generalize valR 16 (t.data.toList.take k) = q at *
            have q1 : (q : Int) ≤ 1099511627776 := by omega
            have q0 : (0 : Int) ≤ (q : Int) := by omega
            have d1 : (d : Int) < 16 := by omega
            have d0 : (0 : Int) ≤ (d : Int) := by omega
            clear hv hdv z9 hk hq hdb
            by_cases hm : (q : Int) * 16 + (d : Int) ≤ 1099511627776
            · have HQ : Hid (valR 16 (t.data.toList.take (k + 1)) = q * 16 + d) := by show _ = _; rw [HV.out, Nat.min_eq_left (by omega)]
              clear HV
              go_wp2_with fail
              refine (HC.out _).mono ?_
              rintro e wz ⟨rfl, rfl⟩
              go_wp2_with fail
              all_goals
                go_round
                case rel => exact ⟨k + 1, HK.out, by go_num, by rw [HQ.out]; go_num⟩
                case measure => have := HK.out; simp [intOf]; omega
            · have HQ : Hid (valR 16 (t.data.toList.take (k + 1)) = 1099511627776) := by show _ = _; rw [HV.out, Nat.min_eq_right (by omega)]
              clear HV
              go_wp2_with fail
              refine (HC.out _).mono ?_
              rintro e wz ⟨rfl, rfl⟩
              go_wp2_with fail
              all_goals
                go_round
                case rel => exact ⟨k + 1, HK.out, by go_num, by rw [HQ.out]; rfl⟩
                case measure => have := HK.out; simp [intOf]; omega
          · have k1 : ¬ (k : Int) < (t.size : Int) := by omega
            have HE : Hid (t.data.toList.take k = t.data.toList) := List.take_of_length_le (by rw [bytes_num]; omega)
            rw [HE.out]
            clear hlt hk
            generalize valR 16 t.data.toList = q at *
            go_wp2_with fail
            go_ret2
            exact NumPost.yes HX.out
    | false =>
      rw [hh] at HC
      have P0 : 0 < s.size := by omega
      obtain ⟨z, hz⟩ : ∃ z, (s[0]'P0).toNat = z := ⟨_, rfl⟩
      have z9 : (z : Int) < 256 := by have := byte_lt (s[0]'P0); omega
      have z0 : (0 : Int) ≤ (z : Int) := by omega
      have HHead : Hid (s.data.toList.head? = some (s[0]'P0)) := head_at P0
      have p0 : (0 : Int) < (s.size : Int) := by omega
      by_cases ho : 1 < s.size ∧ z = 48
      · obtain ⟨ho1, ho2⟩ := ho
        obtain ⟨r1, r2⟩ := drop_data s 1 (by omega)
        have HB := hid (numR_of HNE.out (base_oct hh (by rw [bytes_num]; exact ho1) (by rw [HHead.out]; exact congrArg some (UInt8.toNat_inj.1 (by rw [hz, ho2]; rfl)))))
        have HNo : Hid (digsR 8 (s.extract 1 s.size).data.toList = false → numR s.data.toList = none) := fun h => by rw [HB.out, ← r1, h]; rfl
        have HYes : Hid (digsR 8 (s.extract 1 s.size).data.toList = true → numR s.data.toList = some (valR 8 (s.extract 1 s.size).data.toList)) := fun h => by rw [HB.out, ← r1, h]; rfl
        have HTS : Hid ((s.extract 1 s.size).size ≤ 100000) := by show (s.extract 1 s.size).size ≤ _; rw [r2]; omega
        have p1 : (1 : Int) < (s.size : Int) := by omega
        have p2 : (1 : Int) ≤ (s.size : Int) := by omega
        subst ho2
        clear r1 r2 hh ho1 h0 hs z9 z0 HB
        go_enter Tryd.func25, Tryd.ntmps25
        go_wp2_with fail
        refine (HC.out _ HS.out).mono ?_
        rintro e wz ⟨rfl, rfl⟩
        go_wp2_with fail
        refine (digits_calls (s.extract 1 s.size) 8 _ HTS.out (by decide)).mono ?_
        rintro e wz ⟨rfl, rfl⟩
        generalize (s.extract 1 s.size) = t at *
        cases hd : digsR 8 t.data.toList with
        | false =>
          have HX := hid (HNo.out hd)
          clear hd
          go_wp2_with fail
          go_ret2
          exact NumPost.no HX.out
        | true =>
          have HX := hid (HYes.out hd)
          have HD := hid hd
          have t1 : (t.size : Int) ≤ 100000 := by have := HTS.out; omega
          clear hd
          go_wp2_with fail
          go_loop [5, 6] (fun vn vi => ∃ k : Nat, k ≤ t.size ∧ vi = .int .i64 (k : Int) ∧ vn = .int .i64 (valR 8 (t.data.toList.take k) : Nat)) (fun _ vi => t.size - (intOf vi).toNat)
          case atStart => exact ⟨0, Nat.zero_le _, rfl, rfl⟩
          case round =>
            obtain ⟨k, hk, rfl, rfl⟩ := hrel
            have k0 : (0 : Int) ≤ (k : Int) := by omega
            have hq := valR_le 8 (t.data.toList.take k)
            by_cases hlt : k < t.size
            · have HV := hid (valR_take (b := 8) hlt)
              obtain ⟨d, hv, hdb, hdv⟩ := digs_at HD.out hlt
              rw [hdv] at HV
              obtain ⟨z, hz⟩ : ∃ z, (t[k]'hlt).toNat = z := ⟨_, rfl⟩
              have z9 : z < 256 := by rw [← hz]; exact byte_lt _
              rw [hz] at hv
              have HC := hid (rdigit_calls z z9)
              rw [rd_some hv] at HC
              have k1 : (k : Int) < (t.size : Int) := by omega
              have HK := hid hlt
              generalize valR 8 (t.data.toList.take k) = q at *
              have q1 : (q : Int) ≤ 1099511627776 := by omega
              have q0 : (0 : Int) ≤ (q : Int) := by omega
              have d1 : (d : Int) < 8 := by omega
              have d0 : (0 : Int) ≤ (d : Int) := by omega
              clear hv hdv z9 hk hq hdb
              by_cases hm : (q : Int) * 8 + (d : Int) ≤ 1099511627776
              · have HQ : Hid (valR 8 (t.data.toList.take (k + 1)) = q * 8 + d) := by show _ = _; rw [HV.out, Nat.min_eq_left (by omega)]
                clear HV
                go_wp2_with fail
                refine (HC.out _).mono ?_
                rintro e wz ⟨rfl, rfl⟩
                go_wp2_with fail
                all_goals
                  go_round
                  case rel => exact ⟨k + 1, HK.out, by go_num, by rw [HQ.out]; go_num⟩
                  case measure => have := HK.out; simp [intOf]; omega
              · have HQ : Hid (valR 8 (t.data.toList.take (k + 1)) = 1099511627776) := by show _ = _; rw [HV.out, Nat.min_eq_right (by omega)]
                clear HV
                go_wp2_with fail
                refine (HC.out _).mono ?_
                rintro e wz ⟨rfl, rfl⟩
                go_wp2_with fail
                all_goals
                  go_round
                  case rel => exact ⟨k + 1, HK.out, by go_num, by rw [HQ.out]; rfl⟩
                  case measure => have := HK.out; simp [intOf]; omega
            · have k1 : ¬ (k : Int) < (t.size : Int) := by omega
              have HE : Hid (t.data.toList.take k = t.data.toList) := List.take_of_length_le (by rw [bytes_num]; omega)
              rw [HE.out]
              clear hlt hk
              generalize valR 8 t.data.toList = q at *
              go_wp2_with fail
              go_ret2
              exact NumPost.yes HX.out
      · have HB := hid (numR_of HNE.out (base_ten hh (by
          rintro ⟨g1, g2⟩
          rw [bytes_num] at g1
          rw [HHead.out] at g2
          injection g2 with g2
          exact ho ⟨g1, by rw [← hz, g2]; rfl⟩)))
        have HNo : Hid (digsR 10 s.data.toList = false → numR s.data.toList = none) := fun h => by rw [HB.out, h]; rfl
        have HYes : Hid (digsR 10 s.data.toList = true → numR s.data.toList = some (valR 10 s.data.toList)) := fun h => by rw [HB.out, h]; rfl
        have HTS : Hid (s.size ≤ 100000) := hs
        have hcase : (¬ (1 : Int) < (s.size : Int)) ∨ ((1 : Int) < (s.size : Int) ∧ ((z : Int) == 48) = false) := by
          by_cases g : 1 < s.size
          · exact .inr ⟨by omega, by rw [beq_eq_false_iff_ne]; intro e; exact ho ⟨g, by omega⟩⟩
          · exact .inl (by omega)
        clear hh h0 hs HB ho HHead
        rcases hcase with p1 | ⟨p1, q1⟩
        · have p2 : decide ((1 : Int) < (s.size : Int)) = false := by rw [decide_eq_false_iff_not]; exact p1
          clear p1 p0 hz z9 z0 P0
          go_enter Tryd.func25, Tryd.ntmps25
          go_wp2_with fail
          refine (HC.out _ HS.out).mono ?_
          rintro e wz ⟨rfl, rfl⟩
          go_wp2_with fail
          refine (digits_calls s 10 _ HTS.out (by decide)).mono ?_
          rintro e wz ⟨rfl, rfl⟩
          cases hd : digsR 10 s.data.toList with
          | false =>
            have HX := hid (HNo.out hd)
            clear hd
            go_wp2_with fail
            go_ret2
            exact NumPost.no HX.out
          | true =>
            have HX := hid (HYes.out hd)
            have HD := hid hd
            have t1 : (s.size : Int) ≤ 100000 := by have := HTS.out; omega
            clear hd
            go_wp2_with fail
            go_loop [5, 6] (fun vn vi => ∃ k : Nat, k ≤ s.size ∧ vi = .int .i64 (k : Int) ∧ vn = .int .i64 (valR 10 (s.data.toList.take k) : Nat)) (fun _ vi => s.size - (intOf vi).toNat)
            case atStart => exact ⟨0, Nat.zero_le _, rfl, rfl⟩
            case round =>
              obtain ⟨k, hk, rfl, rfl⟩ := hrel
              have k0 : (0 : Int) ≤ (k : Int) := by omega
              have hq := valR_le 10 (s.data.toList.take k)
              by_cases hlt : k < s.size
              · have HV := hid (valR_take (b := 10) hlt)
                obtain ⟨d, hv, hdb, hdv⟩ := digs_at HD.out hlt
                rw [hdv] at HV
                obtain ⟨z, hz⟩ : ∃ z, (s[k]'hlt).toNat = z := ⟨_, rfl⟩
                have z9 : z < 256 := by rw [← hz]; exact byte_lt _
                rw [hz] at hv
                have HC := hid (rdigit_calls z z9)
                rw [rd_some hv] at HC
                have k1 : (k : Int) < (s.size : Int) := by omega
                have HK := hid hlt
                generalize valR 10 (s.data.toList.take k) = q at *
                have q1 : (q : Int) ≤ 1099511627776 := by omega
                have q0 : (0 : Int) ≤ (q : Int) := by omega
                have d1 : (d : Int) < 10 := by omega
                have d0 : (0 : Int) ≤ (d : Int) := by omega
                clear hv hdv z9 hk hq hdb
                by_cases hm : (q : Int) * 10 + (d : Int) ≤ 1099511627776
                · have HQ : Hid (valR 10 (s.data.toList.take (k + 1)) = q * 10 + d) := by show _ = _; rw [HV.out, Nat.min_eq_left (by omega)]
                  clear HV
                  go_wp2_with fail
                  refine (HC.out _).mono ?_
                  rintro e wz ⟨rfl, rfl⟩
                  go_wp2_with fail
                  all_goals
                    go_round
                    case rel => exact ⟨k + 1, HK.out, by go_num, by rw [HQ.out]; go_num⟩
                    case measure => have := HK.out; simp [intOf]; omega
                · have HQ : Hid (valR 10 (s.data.toList.take (k + 1)) = 1099511627776) := by show _ = _; rw [HV.out, Nat.min_eq_right (by omega)]
                  clear HV
                  go_wp2_with fail
                  refine (HC.out _).mono ?_
                  rintro e wz ⟨rfl, rfl⟩
                  go_wp2_with fail
                  all_goals
                    go_round
                    case rel => exact ⟨k + 1, HK.out, by go_num, by rw [HQ.out]; rfl⟩
                    case measure => have := HK.out; simp [intOf]; omega
              · have k1 : ¬ (k : Int) < (s.size : Int) := by omega
                have HE : Hid (s.data.toList.take k = s.data.toList) := List.take_of_length_le (by rw [bytes_num]; omega)
                rw [HE.out]
                clear hlt hk
                generalize valR 10 s.data.toList = q at *
                go_wp2_with fail
                go_ret2
                exact NumPost.yes HX.out
        · clear p0
          go_enter Tryd.func25, Tryd.ntmps25
          go_wp2_with fail
          refine (HC.out _ HS.out).mono ?_
          rintro e wz ⟨rfl, rfl⟩
          go_wp2_with fail
          refine (digits_calls s 10 _ HTS.out (by decide)).mono ?_
          rintro e wz ⟨rfl, rfl⟩
          cases hd : digsR 10 s.data.toList with
          | false =>
            have HX := hid (HNo.out hd)
            clear hd
            go_wp2_with fail
            go_ret2
            exact NumPost.no HX.out
          | true =>
            have HX := hid (HYes.out hd)
            have HD := hid hd
            have t1 : (s.size : Int) ≤ 100000 := by have := HTS.out; omega
            clear hd
            go_wp2_with fail
            go_loop [5, 6] (fun vn vi => ∃ k : Nat, k ≤ s.size ∧ vi = .int .i64 (k : Int) ∧ vn = .int .i64 (valR 10 (s.data.toList.take k) : Nat)) (fun _ vi => s.size - (intOf vi).toNat)
            case atStart => exact ⟨0, Nat.zero_le _, rfl, rfl⟩
            case round =>
              obtain ⟨k, hk, rfl, rfl⟩ := hrel
              have k0 : (0 : Int) ≤ (k : Int) := by omega
              have hq := valR_le 10 (s.data.toList.take k)
              by_cases hlt : k < s.size
              · have HV := hid (valR_take (b := 10) hlt)
                obtain ⟨d, hv, hdb, hdv⟩ := digs_at HD.out hlt
                rw [hdv] at HV
                obtain ⟨z, hz⟩ : ∃ z, (s[k]'hlt).toNat = z := ⟨_, rfl⟩
                have z9 : z < 256 := by rw [← hz]; exact byte_lt _
                rw [hz] at hv
                have HC := hid (rdigit_calls z z9)
                rw [rd_some hv] at HC
                have k1 : (k : Int) < (s.size : Int) := by omega
                have HK := hid hlt
                generalize valR 10 (s.data.toList.take k) = q at *
                have q1 : (q : Int) ≤ 1099511627776 := by omega
                have q0 : (0 : Int) ≤ (q : Int) := by omega
                have d1 : (d : Int) < 10 := by omega
                have d0 : (0 : Int) ≤ (d : Int) := by omega
                clear hv hdv z9 hk hq hdb
                by_cases hm : (q : Int) * 10 + (d : Int) ≤ 1099511627776
                · have HQ : Hid (valR 10 (s.data.toList.take (k + 1)) = q * 10 + d) := by show _ = _; rw [HV.out, Nat.min_eq_left (by omega)]
                  clear HV
                  go_wp2_with fail
                  refine (HC.out _).mono ?_
                  rintro e wz ⟨rfl, rfl⟩
                  go_wp2_with fail
                  all_goals
                    go_round
                    case rel => exact ⟨k + 1, HK.out, by go_num, by rw [HQ.out]; go_num⟩
                    case measure => have := HK.out; simp [intOf]; omega
                · have HQ : Hid (valR 10 (s.data.toList.take (k + 1)) = 1099511627776) := by show _ = _; rw [HV.out, Nat.min_eq_right (by omega)]
                  clear HV
                  go_wp2_with fail
                  refine (HC.out _).mono ?_
                  rintro e wz ⟨rfl, rfl⟩
                  go_wp2_with fail
                  all_goals
                    go_round
                    case rel => exact ⟨k + 1, HK.out, by go_num, by rw [HQ.out]; rfl⟩
                    case measure => have := HK.out; simp [intOf]; omega
              · have k1 : ¬ (k : Int) < (s.size : Int) := by omega
                have HE : Hid (s.data.toList.take k = s.data.toList) := List.take_of_length_le (by rw [bytes_num]; omega)
                rw [HE.out]
                clear hlt hk
                generalize valR 10 s.data.toList = q at *
                go_wp2_with fail
                go_ret2
                exact NumPost.yes HX.out
end Go.Proofs.YtghhdccnocpobaaDoor
