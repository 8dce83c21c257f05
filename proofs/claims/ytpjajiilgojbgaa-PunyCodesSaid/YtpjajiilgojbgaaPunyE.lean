/- The walk of Encode. -/
import Derived.Test.YtpjajiilgojbgaaPunyD
namespace Go.Proofs.Ytpjajiilgojbgaa
open Go.RowKit
set_option linter.unusedVariables false
/-- The signs below 80, as bytes. -/
def low (m : List Nat) : List UInt8 := (m.filter (· < 128)).map b8
def enc (m : List Nat) : List UInt8 := low m ++ (if m.countP (· < 128) = 0 then [] else [45]) ++ (encD m (m.countP (· < 128)) m.length 0 72 128 (m.countP (· < 128))).map letter
def nats (l : List Int) : List Nat := l.map Int.toNat
def encR (l : List Int) : ByteArray × Int := if 256 < l.length then (strOf [], 11) else if l.all isS then (strOf (enc (nats l)), 0) else (strOf [], 1)
theorem encR_long {l : List Int} (h : 256 < l.length) : encR l = (strOf [], 11) := by unfold encR; rw [if_pos h]
theorem encR_bad {l : List Int} (h : ¬ 256 < l.length) (hb : l.all isS = false) : encR l = (strOf [], 1) := by unfold encR; rw [if_neg h, hb]; rfl
theorem encR_ok {l : List Int} (h : ¬ 256 < l.length) (hb : l.all isS = true) : encR l = (strOf (enc (nats l)), 0) := by unfold encR; rw [if_neg h, hb]; rfl
theorem isS_nat {c : Int} (h : isS c = true) : ((c.toNat : Nat) : Int) = c := by have := isS_iff.1 h; omega
theorem nats_map {l : List Int} (h : l.all isS = true) : (nats l).map (fun n : Nat => (n : Int)) = l := by
  unfold nats
  rw [List.map_map]
  refine (List.map_congr_left fun c hc => ?_).trans (List.map_id _)
  exact isS_nat (List.all_eq_true.1 h c hc)
theorem nats_row {l : List Int} {w : World} {v : Value} (h : l.all isS = true) (hv : IRow w v l) : NRow w v (nats l) := by
  obtain ⟨a, cap, rfl, h1, h2, h3⟩ := hv
  have hln : (nats l).length = l.length := by simp [nats]
  refine ⟨a, cap, by rw [hln], by omega, h2, fun hne => ?_⟩
  obtain ⟨b, off, rfl, hb, hc⟩ := h3 (by intro e; subst e; exact hne rfl)
  refine ⟨b, off, rfl, hb, fun i hi => ?_⟩
  rw [hc i (by omega)]
  have : (nats l)[i] = (l[i]'(by omega)).toNat := by simp [nats]
  rw [this]
  show some (Value.int .i64 _) = some (Value.int .i64 _)
  rw [isS_nat (List.all_eq_true.1 h _ (List.getElem_mem _))]
theorem nats_le {l : List Int} (h : l.all isS = true) : ∀ c ∈ nats l, isS (c : Int) = true ∧ c ≤ 1114111 := by
  intro c hc
  obtain ⟨d, hd, rfl⟩ := List.mem_map.1 hc
  have h1 := List.all_eq_true.1 h d hd
  rw [isS_nat h1]
  have := isS_iff.1 h1
  exact ⟨h1, by omega⟩
theorem low_snoc (l : List Int) (k : Nat) (h : k < l.length) : low (nats (l.take (k + 1))) = low (nats (l.take k)) ++ (if l[k].toNat < 128 then [b8 l[k].toNat] else []) := by
  unfold low nats
  rw [List.take_succ_eq_append_getElem h, List.map_append, List.filter_append, List.map_append]
  congr 1
  by_cases hc : l[k].toNat < 128
  · simp [hc]
  · simp [hc]
theorem low_len (m : List Nat) : (low m).length = m.countP (· < 128) := by unfold low; rw [List.length_map, List.countP_eq_length_filter]
theorem low_le (m : List Nat) : (low m).length ≤ m.length := by rw [low_len]; exact List.countP_le_length
theorem nats_take_len (l : List Int) (k : Nat) : (nats (l.take k)).length ≤ l.length := by unfold nats; rw [List.length_map, List.length_take]; omega
set_option maxRecDepth 20000 in
set_option maxHeartbeats 4000000 in
theorem encode_calls (v : Value) (l : List Int) (w : World) (hv : IRow w v l) :
    Calls Try.prog 9 #[v] w fun e w' => e = .returned (.tuple #[.string (encR l).1, .int .i64 (encR l).2]) ∧ Below w.heap.size w w' := by
  have HV := hid hv
  obtain ⟨a, cap, rfl, h1, h2, h3⟩ := hv
  unfold maxLen at h2
  have l0 : (l.length : Int) ≤ (cap : Int) := by omega
  have cp : (cap : Int) ≤ 9223372036854775807 := by omega
  clear h3
  by_cases hlong : 256 < l.length
  · rw [encR_long hlong]
    have g : (256 : Int) < (l.length : Int) := by omega
    clear hlong h1 h2
    go_enter Try.func9, Try.ntmps9
    go_wp2_with fail
    go_ret2
    exact ⟨rfl, Below.refl _ _⟩
  · have HLG := hid hlong
    obtain ⟨R, hR⟩ : ∃ R, R = encR l := ⟨_, rfl⟩
    rw [← hR]
    have HR := hid hR
    have g : ¬ (256 : Int) < (l.length : Int) := by omega
    have l1 : (l.length : Int) ≤ 256 := by omega
    clear hlong h1 h2 hR
    go_enter Try.func9, Try.ntmps9
    go_wp2_with fail
    go_loopw [4, 13] (fun vo vi wr => ∃ k : Nat, k ≤ l.length ∧ vi = .int .i64 (k : Int) ∧ BOwn wr w.heap.size vo (low (nats (l.take k))) ∧ Below w.heap.size w wr ∧ (l.take k).all isS = true) (fun _ vi _ => l.length - (intOf vi).toNat)
    case atStart => exact ⟨0, Nat.zero_le _, rfl, Own.nil _ _ _ _, Below.refl _ _, rfl⟩
    case round =>
      obtain ⟨k, hk, rfl, ho, hb, hall⟩ := hrel
      have HO := hid ho
      have HB := hid hb
      have HA := hid hall
      have HSz : Hid (w.heap.size ≤ wr.heap.size) := hb.size
      have k0 : (0 : Int) ≤ (k : Int) := by omega
      have HLL : Hid ((low (nats (l.take k))).length ≤ 256) := by
        show _ ≤ _
        have h1 := low_le (nats (l.take k))
        have h2 := nats_take_len l k
        have := HLG.out
        omega
      clear ho hb hall
      by_cases hlt : k < l.length
      · obtain ⟨b, off, rfl, hck⟩ := HV.out.open HB.out k hlt
        have k1 : (k : Int) < (l.length : Int) := by omega
        have HK := hid hlt
        have HSn := hid (low_snoc l k hlt)
        have HAs := hid (all_snoc l k hlt)
        have HAn := hid (all_not l k hlt)
        generalize l[k] = c at *
        have HSc := hid (fun w' => scalar_calls c w')
        by_cases hs : isS c = true
        · have hc1 := isS_iff.1 hs
          obtain ⟨n, rfl⟩ : ∃ n : Nat, c = (n : Int) := ⟨c.toNat, by omega⟩
          rw [Int.toNat_natCast] at HSn
          have HN : Hid ((l.take (k + 1)).all isS = true) := by show _ = _; rw [HAs.out, HA.out, hs]; rfl
          have n0 : (0 : Int) ≤ (n : Int) := by omega
          have n1 : (n : Int) ≤ 1114111 := by omega
          rw [hs] at HSc
          by_cases hn : n < 128
          · rw [if_pos hn] at HSn
            have e0 := b8_nat n (by omega)
            generalize b8 n = x at *
            obtain ⟨v', w', hr, ho', hg⟩ := append_run (HO.out.alloc (.cells #[.int .u8 (x.toNat : Int)] 5)) (Row.lit fb wr [x] 5 (0, 0) (by simp)) (by have := HLL.out; simp; omega) (by have := HSz.out; simp; omega)
            have HO2 := hid ho'
            have HB2 := hid ((HB.out.alloc HSz.out (.cells #[.int .u8 (x.toNat : Int)] 5)).grown hg (by have := HSz.out; simp; omega) (Own.lt HO.out))
            rw [e0] at hr
            have g1 : (n : Int) < 128 := by omega
            clear ho' hg e0 hn hs hc1 HAs HAn hlt hk
            go_wp2_with fail
            refine (HSc.out _).mono ?_
            rintro e w1 ⟨rfl, rfl⟩
            go_wp2_with (at_builtin; go_must (refine wpList_append_run hr rfl _ _ rfl rfl rfl rfl ?_))
            go_roundw
            case rel => exact ⟨k + 1, HK.out, by go_num, by rw [HSn.out]; exact HO2.out, HB2.out, HN.out⟩
            case measure => have := HK.out; simp [intOf]; omega
          · rw [if_neg hn, List.append_nil] at HSn
            have g1 : ¬ (n : Int) < 128 := by omega
            clear hn hs hc1 HAs HAn hlt hk
            go_wp2_with fail
            refine (HSc.out _).mono ?_
            rintro e w1 ⟨rfl, rfl⟩
            go_wp2_with fail
            go_roundw
            case rel => exact ⟨k + 1, HK.out, by go_num, by rw [HSn.out]; exact HO.out, HB.out, HN.out⟩
            case measure => have := HK.out; simp [intOf]; omega
        · have hs' : isS c = false := by simpa using hs
          have HX : Hid (R = (strOf [], 1)) := by show _ = _; rw [HR.out, encR_bad HLG.out (HAn.out hs')]
          rw [hs'] at HSc
          clear hs hs' HAs HAn hlt hk HSn
          go_wp2_with fail
          refine (HSc.out _).mono ?_
          rintro e w1 ⟨rfl, rfl⟩
          go_wp2_with fail
          go_ret2
          exact ⟨by rw [HX.out]; rfl, HB.out⟩
      · have hkl : k = l.length := by omega
        subst hkl
        rw [List.take_length] at HO HA HLL
        have HX : Hid (R = (strOf (enc (nats l)), 0)) := by show _ = _; rw [HR.out, encR_ok HLG.out HA.out]
        have HNR := hid (nats_row HA.out HV.out)
        have HNL := hid (nats_le HA.out)
        have hnl : (nats l).length = l.length := by simp [nats]
        have HD := hid (fun vo xs w' ho hb hx => deltas_calls w _ (nats l) HNR.out (by have := HLG.out; omega) (fun c hc => (HNL.out c hc).2) vo xs w' ho hb hx ((low (nats l)).length) (low_len _))
        have hOW := HO.out
        rcases hOW.row with ⟨a', cap', hE0, hE1, hE2, hE3⟩
        subst hE0
        unfold maxLen at hE2
        have r0 : ((low (nats l)).length : Int) ≤ (cap' : Int) := by omega
        have r1 : (cap' : Int) ≤ 9223372036854775807 := by omega
        have r2 : ((low (nats l)).length : Int) ≤ 256 := by have := HLL.out; omega
        have HENC : Hid (enc (nats l) = low (nats l) ++ (if (low (nats l)).length = 0 then [] else [45]) ++ (encD (nats l) (low (nats l)).length (nats l).length 0 72 128 (low (nats l)).length).map letter) := by show _ = _; unfold enc; rw [low_len]
        have k2 : ¬ (l.length : Int) < (l.length : Int) := by omega
        clear hOW hE1 hE2 hE3 hk hlt
        generalize low (nats l) = L at *
        by_cases hz : L.length = 0
        · have HE : Hid (enc (nats l) = L ++ (encD (nats l) L.length (nats l).length 0 72 128 L.length).map letter) := by show _ = _; rw [HENC.out, if_pos hz, List.append_nil]
          have g3 : ¬ (0 : Int) < (L.length : Int) := by omega
          clear hz HENC hnl
          go_wp2_with fail
          refine (HD.out _ _ _ HO.out HB.out (by have := HLL.out; omega)).mono ?_
          rintro e w1 ⟨⟨v', rfl, ho1⟩, hb1⟩
          have hs := run_string ho1.row
          have HB1 := hid hb1
          rw [← HE.out] at hs
          clear ho1 hb1
          go_wp2_with fail
          go_ret2
          exact ⟨by rw [HX.out]; rfl, HB1.out⟩
        · have HE : Hid (enc (nats l) = L ++ [45] ++ (encD (nats l) L.length (nats l).length 0 72 128 L.length).map letter) := by show _ = _; rw [HENC.out, if_neg hz]
          obtain ⟨v', w', hr, ho', hg⟩ := append_run (HO.out.alloc (.cells #[.int .u8 45] 5)) (Row.lit fb wr [45] 5 (0, 0) (by simp)) (by have := HLL.out; simp; omega) (by have := HSz.out; simp; omega)
          have HO2 := hid ho'
          have HB2 := hid ((HB.out.alloc HSz.out (.cells #[.int .u8 45] 5)).grown hg (by have := HSz.out; simp; omega) (Own.lt HO.out))
          have g3 : (0 : Int) < (L.length : Int) := by omega
          clear hz HENC hnl ho' hg
          go_wp2_with (at_builtin; go_must (refine wpList_append_run hr rfl _ _ rfl rfl rfl rfl ?_))
          refine (HD.out _ _ _ HO2.out HB2.out (by have := HLL.out; simp; omega)).mono ?_
          rintro e w1 ⟨⟨v', rfl, ho1⟩, hb1⟩
          have hs := run_string ho1.row
          have HB1 := hid hb1
          rw [← HE.out] at hs
          clear ho1 hb1
          go_wp2_with fail
          go_ret2
          exact ⟨by rw [HX.out]; rfl, HB1.out⟩
end Go.Proofs.Ytpjajiilgojbgaa
