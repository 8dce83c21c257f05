/- The walk of the statement 'plain signs'. -/
import Derived.Test.YtpjajiilgojbgaaPunyZ
namespace Go.Proofs.Ytpjajiilgojbgaa
open Go.RowKit
set_option linter.unusedVariables false
theorem f3 : decR ⟨#[45]⟩ = ([], 4) := by
  refine decR_none (by decide) ?_
  have hl : Lib.lastIndexByte ⟨#[45]⟩ 45 = 0 := last_some [] [] (by decide)
  unfold dec cutOf
  rw [hl, if_pos (by decide)]
  decide +kernel
def plainNats (l : List UInt8) : List Nat := l.map UInt8.toNat
theorem plain_all {l : List UInt8} (h : ∀ c ∈ l, c.toNat < 128) : (ints (plainNats l)).all isS = true := by
  rw [List.all_eq_true]
  intro c hc
  unfold ints plainNats at hc
  rw [List.map_map] at hc
  obtain ⟨x, hx, rfl⟩ := List.mem_map.1 hc
  have := h x hx
  rw [isS_iff]
  simp only [Function.comp]
  omega
theorem nats_ints (m : List Nat) : nats (ints m) = m := by
  unfold nats ints
  rw [List.map_map]
  exact (List.map_congr_left fun c _ => by simp).trans (List.map_id _)
theorem plain_enc {l : List UInt8} (h : ∀ c ∈ l, c.toNat < 128) : enc (plainNats l) = l ++ (if l.length = 0 then [] else [45]) := by
  have hf : (plainNats l).filter (· < 128) = plainNats l := by
    rw [List.filter_eq_self]
    intro c hc
    obtain ⟨x, hx, rfl⟩ := List.mem_map.1 hc
    simpa using h x hx
  have hlen : (plainNats l).length = l.length := by simp [plainNats]
  have hc : (plainNats l).countP (· < 128) = l.length := by rw [List.countP_eq_length_filter, hf, hlen]
  have hlow : low (plainNats l) = l := by
    unfold low
    rw [hf]
    unfold plainNats
    rw [List.map_map]
    exact (List.map_congr_left fun c _ => b8_eq rfl).trans (List.map_id _)
  unfold enc
  rw [hlow, hc, encD_stop _ _ _ _ _ _ _ (by omega)]
  simp
theorem plain_isS {l : List UInt8} (h : ∀ c ∈ l, c.toNat < 128) : ∀ c ∈ plainNats l, isS (c : Int) = true := by
  intro c hc
  obtain ⟨x, hx, rfl⟩ := List.mem_map.1 hc
  have := h x hx
  rw [isS_iff]; omega
theorem plain_decR {l : List UInt8} (hl : l.length ≤ 256) (h : ∀ c ∈ l, c.toNat < 128) : decR (strOf (enc (plainNats l))) = (plainNats l, 0) := by
  refine decR_some ?_ (dec_enc_puny _ (by simpa [plainNats] using hl) (plain_isS h))
  rw [strOf_size, plain_enc h]
  have : (l ++ if l.length = 0 then [] else [45]).length ≤ l.length + 1 := by
    split <;> simp
  omega
theorem plain_encR {l : List UInt8} (hl : l.length ≤ 256) (h : ∀ c ∈ l, c.toNat < 128) : encR (ints (plainNats l)) = (strOf (enc (plainNats l)), 0) := by
  rw [encR_ok (by simp [ints, plainNats]; omega) (plain_all h), nats_ints]
theorem ints_snoc (l : List UInt8) (k : Nat) (h : k < l.length) : ints (plainNats (l.take (k + 1))) = ints (plainNats (l.take k)) ++ [(l[k].toNat : Int)] := by
  unfold ints plainNats
  rw [List.take_succ_eq_append_getElem h, List.map_append, List.map_append]
  rfl
set_option maxRecDepth 20000 in
set_option maxHeartbeats 8000000 in
theorem punyPlain_walk (s : ByteArray) (w : World) (hs : s.size ≤ maxLen) :
    Calls Try.prog 5 #[.string s] w fun e w' => e = .returned (.bool true) ∧ Below w.heap.size w w' := by
  unfold maxLen at hs
  have g0 : (s.size : Int) ≤ 9223372036854775807 := by omega
  by_cases hlong : 256 < s.size
  · have g : (256 : Int) < (s.size : Int) := by omega
    clear hlong hs
    go_enter Try.func5, Try.ntmps5
    go_wp2_with fail
    refine (first_calls _).mono ?_
    rintro e w1 ⟨rfl, hb1⟩
    have HB1 := hid hb1
    clear hb1
    go_wp2_with fail
    refine (first_calls _).mono ?_
    rintro e w2 ⟨rfl, hb2⟩
    have HB2 := hid (below_trans HB1.out hb2)
    clear hb2
    go_wp2_with fail
    go_ret
    exact ⟨rfl, HB2.out⟩
  · have g : ¬ (256 : Int) < (s.size : Int) := by omega
    have g1 : (s.size : Int) ≤ 256 := by omega
    have HL : Hid (s.size ≤ 256) := by show _ ≤ _; omega
    clear hlong hs
    go_enter Try.func5, Try.ntmps5
    go_wp2_with fail
    refine (first_calls _).mono ?_
    rintro e w1 ⟨rfl, hb1⟩
    have HB1 := hid hb1
    clear hb1
    go_wp2_with fail
    go_loopw [3, 4] (fun vl vi wr => ∃ k : Nat, k ≤ s.size ∧ vi = .int .i64 (k : Int) ∧ IOwn wr w.heap.size vl (ints (plainNats ((bytesOf s).take k))) ∧ Below w.heap.size w wr ∧ ∀ c ∈ (bytesOf s).take k, c.toNat < 128) (fun _ vi _ => s.size - (intOf vi).toNat)
    case atStart => exact ⟨0, Nat.zero_le _, rfl, Own.nil _ _ _ _, HB1.out, by simp⟩
    case round =>
      obtain ⟨k, hk, rfl, ho, hb, hall⟩ := hrel
      have HO := hid ho
      have HB := hid hb
      have HAL := hid hall
      have HSz : Hid (w.heap.size ≤ wr.heap.size) := hb.size
      have hbl := bytesOf_len s
      clear ho hb hall HB1
      by_cases hlt : k < s.size
      · have k0 : (0 : Int) ≤ (k : Int) := by omega
        have k1 : (k : Int) < (s.size : Int) := by omega
        have HSn := hid (ints_snoc (bytesOf s) k (by omega))
        have HST := hid (List.take_succ_eq_append_getElem (l := bytesOf s) (i := k) (by omega))
        have hgs : (bytesOf s)[k]'(by omega) = s[k] := rfl
        rw [hgs] at HSn HST
        have hx256 := byte_lt s[k]
        obtain ⟨x, hx⟩ : ∃ x, x = s[k] := ⟨_, rfl⟩
        rw [← hx] at HSn HST hx256
        obtain ⟨z, hz⟩ : ∃ z, x.toNat = z := ⟨_, rfl⟩
        have hz' : s[k].toNat = z := by rw [← hx, hz]
        have HZ := hid hz
        rw [hz] at HSn hx256
        have HK := hid hlt
        have z0 : (0 : Int) ≤ (z : Int) := by omega
        have z1 : (z : Int) < 256 := by omega
        have HLen : Hid ((ints (plainNats ((bytesOf s).take k))).length ≤ 256) := by
          show _ ≤ _
          have := HL.out
          simp [ints, plainNats]; omega
        clear hgs hx hz hk hbl
        by_cases h128 : z < 128
        · have g4 : ¬ (127 : Int) < (z : Int) := by omega
          have HA2 : Hid (∀ c ∈ (bytesOf s).take (k + 1), c.toNat < 128) := by
            show ∀ c ∈ (bytesOf s).take (k + 1), c.toNat < 128
            intro c hc
            rw [HST.out] at hc
            rcases List.mem_append.1 hc with h | h
            · exact HAL.out c h
            · rw [List.mem_singleton.1 h, HZ.out]; exact h128
          obtain ⟨v', w', hr, ho', hg⟩ := appendI_run (HO.out.alloc (.cells #[.int .i64 (z : Int)] 3)) (Row.lit fi wr [(z : Int)] 3 (0, 0) (by simp)) (by have := HLen.out; simp at this ⊢; omega) (by have := HSz.out; simp; omega)
          have HO2 := hid ho'
          have HB2 := hid ((HB.out.alloc HSz.out (.cells #[.int .i64 (z : Int)] 3)).grown hg (by have := HSz.out; simp; omega) (Own.lt HO.out))
          clear h128 hx256 ho' hg
          go_wp2_with (at_builtin; go_must (refine wpList_append_run hr rfl _ _ rfl rfl rfl rfl ?_))
          go_roundw
          case rel => exact ⟨k + 1, HK.out, by go_num, by rw [HSn.out]; exact HO2.out, HB2.out, HA2.out⟩
          case measure => have := HK.out; simp [intOf]; omega
        · have g4 : (127 : Int) < (z : Int) := by omega
          clear h128 hx256
          go_wp2_with fail
          refine (first_calls _).mono ?_
          rintro e w2 ⟨rfl, hb2⟩
          have HB2 := hid (below_trans HB.out hb2)
          clear hb2
          go_wp2_with fail
          go_ret
          exact ⟨rfl, HB2.out⟩
      · have hkl : k = (bytesOf s).length := by omega
        rw [hkl, List.take_length] at HO HAL
        have g4 : ¬ (k : Int) < (s.size : Int) := by omega
        have hl256 : (bytesOf s).length ≤ 256 := by have := HL.out; omega
        have HE := hid (plain_encR hl256 HAL.out)
        have HD := hid (plain_decR hl256 HAL.out)
        have HP := hid (plain_enc HAL.out)
        have HM : Hid ((strOf (enc (plainNats (bytesOf s)))).size ≤ maxLen) := by
          show _ ≤ _
          rw [strOf_size, HP.out]
          have : (bytesOf s ++ if (bytesOf s).length = 0 then [] else [45]).length ≤ (bytesOf s).length + 1 := by split <;> simp
          unfold maxLen; omega
        have HBL := hid hbl
        have hil : (ints (plainNats (bytesOf s))).length = s.size := by rw [← hbl]; simp [ints, plainNats]
        obtain ⟨vA, vC, hvs⟩ := row_len HO.out.row
        subst hvs
        rw [hil] at HO ⊢
        have HIL := hid hil
        clear hkl hlt hk hl256 hbl hil
        go_wp2_with fail
        refine (encode_calls _ _ _ HO.out.row).mono ?_
        rintro e w2 ⟨rfl, hb2⟩
        rw [HE.out]
        have HB2 := hid (below_trans HB.out hb2)
        have HA2 := hid (HO.out.row.below hb2)
        clear hb2 HB HO
        go_wp2_with fail
        refine (decode_calls _ _ HM.out).mono ?_
        rintro e w3 ⟨⟨v3, rfl, hv3⟩, hb3⟩
        rw [HD.out] at hv3 ⊢
        obtain ⟨uA, uC, hvs⟩ := row_len hv3
        subst hvs
        rw [HIL.out] at hv3 ⊢
        have HB3 := hid (below_trans HB2.out hb3)
        have HA3 := hid (HA2.out.below hb3)
        have HU3 := hid hv3
        clear hb3 HB2 HA2 hv3
        go_wp2_with fail
        refine (decode_calls _ _ (by decide)).mono ?_
        rintro e w4 ⟨⟨v4, rfl, hv4⟩, hb4⟩
        rw [f3]
        have HB4 := hid (below_trans HB3.out hb4)
        have HA4 := hid (HA3.out.below hb4)
        have HU4 := hid (HU3.out.below hb4)
        clear hb4 HB3 HA3 HU3 hv4
        by_cases hz : s.size = 0
        · have hX : enc (plainNats (bytesOf s)) = [] := by
            have hb0 : bytesOf s = [] := List.eq_nil_of_length_eq_zero (by rw [HBL.out, hz])
            rw [HP.out, hb0]; rfl
          rw [hX]
          have e0 := strOf_list []
          have z1 : (s.size : Int) = 0 := by omega
          have z2 : ((s.size : Int) == 0) = true := by rw [beq_iff_eq]; omega
          clear hX
          go_wp2_with fail
          refine (first_calls _).mono ?_
          rintro e w5 ⟨rfl, hb5⟩
          have HB5 := hid (below_trans HB4.out hb5)
          clear hb5
          go_wp2_with fail
          go_ret
          exact ⟨rfl, HB5.out⟩
        · have hX : enc (plainNats (bytesOf s)) = bytesOf s ++ [45] := by
            rw [HP.out, if_neg (by rw [HBL.out]; exact hz)]
          rw [hX]
          have e0 := strOf_list (bytesOf s ++ [45])
          have e1 : (s ++ (⟨#[45]⟩ : ByteArray)).toList = bytesOf s ++ [45] := by
            rw [ByteArray.toList_eq]
            simp [bytesOf]
          have z2 : ((s.size : Int) == 0) = false := by rw [beq_eq_false_iff_ne]; omega
          have HI := hid (fun w0 => ints_calls (.slice uA s.size uC) (.slice vA s.size vC) (ints (plainNats (bytesOf s))) (ints (plainNats (bytesOf s))) w0)
          rw [beq_self_eq_true] at HI
          clear hX
          go_wp2_with fail
          refine (first_calls _).mono ?_
          rintro e w5 ⟨rfl, hb5⟩
          have HB5 := hid (below_trans HB4.out hb5)
          have HA5 := hid (HA4.out.below hb5)
          have HU5 := hid (HU4.out.below hb5)
          clear hb5 HB4 HA4 HU4
          go_wp2_with fail
          refine (HI.out _ HU5.out HA5.out).mono ?_
          rintro e w6 ⟨rfl, hb6⟩
          have HB6 := hid (below_trans HB5.out hb6)
          clear hb6
          go_wp2_with fail
          go_ret
          exact ⟨rfl, HB6.out⟩
end Go.Proofs.Ytpjajiilgojbgaa
