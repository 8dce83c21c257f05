/- The walk of the statement 'unlike signs'. -/
import Derived.Test.YtpjajiilgojbgaaPunyZ
namespace Go.Proofs.Ytpjajiilgojbgaa
open Go.RowKit
set_option linter.unusedVariables false
theorem encR_cases (l : List Int) : (∃ n : Int, encR l = (strOf [], n) ∧ (n == 0) = false ∧ (n != 0) = true) ∨ (encR l = (strOf (enc (nats l)), 0) ∧ l.length ≤ 256 ∧ l.all isS = true) := by
  by_cases h : 256 < l.length
  · exact .inl ⟨11, encR_long h, rfl, rfl⟩
  · cases hb : l.all isS with
    | false => exact .inl ⟨1, encR_bad h hb, rfl, rfl⟩
    | true => exact .inr ⟨encR_ok h hb, by omega, rfl⟩
theorem enc_beq {a b : List Int} (ha : a.length ≤ 256) (sa : a.all isS = true) (hb : b.length ≤ 256) (sb : b.all isS = true) (h : a ≠ b) : (enc (nats a) == enc (nats b)) = false := by
  rw [beq_eq_false_iff_ne]
  intro e
  refine h ?_
  have h1 := enc_inj (nats a) (nats b) (by simpa [nats] using ha) (fun c hc => (nats_le sa c hc).1) (by simpa [nats] using hb) (fun c hc => (nats_le sb c hc).1) e
  rw [← nats_map sa, ← nats_map sb, h1]
set_option maxRecDepth 20000 in
set_option maxHeartbeats 8000000 in
theorem punyOrder_walk (va : Value) (a : List Int) (vb : Value) (b : List Int) (w : World) (ha : IRow w va a) (hb : IRow w vb b) :
    Calls Try.prog 6 #[va, vb] w fun e w' => e = .returned (.bool true) ∧ Below w.heap.size w w' := by
  have HA := hid ha
  have HV := hid hb
  have e0 := strOf_list []
  clear ha hb
  go_enter Try.func6, Try.ntmps6
  go_wp2_with fail
  refine (first_calls _).mono ?_
  rintro e w1 ⟨rfl, hb1⟩
  have HB1 := hid hb1
  have HA1 := hid (HA.out.below hb1)
  have HV1 := hid (HV.out.below hb1)
  clear hb1 HA HV
  go_wp2_with fail
  refine (encode_calls _ a _ HA1.out).mono ?_
  rintro e w2 ⟨rfl, hb2⟩
  have HB2 := hid (below_trans HB1.out hb2)
  have HA2 := hid (HA1.out.below hb2)
  have HV2 := hid (HV1.out.below hb2)
  clear hb2 HA1 HV1 HB1
  go_wp2_with fail
  refine (encode_calls _ b _ HV2.out).mono ?_
  rintro e w3 ⟨rfl, hb3⟩
  have HB3 := hid (below_trans HB2.out hb3)
  have HA3 := hid (HA2.out.below hb3)
  have HV3 := hid (HV2.out.below hb3)
  clear hb3 HA2 HV2 HB2
  rcases encR_cases a with ⟨n, hn, n1, n2⟩ | ⟨hn, n1, n2⟩
  · rw [hn]
    rcases encR_cases b with ⟨m, hm, m1, m2⟩ | ⟨hm, m1, m2⟩
    · rw [hm]
      clear hn hm
      go_wp2_with fail
      refine (first_calls _).mono ?_
      rintro e w4 ⟨rfl, hb4⟩
      have HB4 := hid (below_trans HB3.out hb4)
      clear hb4 HB3
      go_wp2_with fail
      go_ret
      exact ⟨rfl, HB4.out⟩
    · rw [hm]
      clear hn hm m1 m2
      go_wp2_with fail
      refine (first_calls _).mono ?_
      rintro e w4 ⟨rfl, hb4⟩
      have HB4 := hid (below_trans HB3.out hb4)
      clear hb4 HB3
      go_wp2_with fail
      go_ret
      exact ⟨rfl, HB4.out⟩
  · rcases encR_cases b with ⟨m, hm, m1, m2⟩ | ⟨hm, m1, m2⟩
    · rw [hn, hm]
      clear hn hm n1 n2
      go_wp2_with fail
      refine (first_calls _).mono ?_
      rintro e w4 ⟨rfl, hb4⟩
      have HB4 := hid (below_trans HB3.out hb4)
      clear hb4 HB3
      go_wp2_with fail
      go_ret
      exact ⟨rfl, HB4.out⟩
    · have HI := hid (fun w0 => ints_calls va vb a b w0)
      by_cases hab : a = b
      · subst hab
        rw [hn]
        rw [beq_self_eq_true] at HI
        have e1 := strOf_list (enc (nats a))
        clear hn hm n1 n2 m1 m2
        generalize enc (nats a) = X at *
        go_wp2_with fail
        refine (first_calls _).mono ?_
        rintro e w4 ⟨rfl, hb4⟩
        have HB4 := hid (below_trans HB3.out hb4)
        have HA4 := hid (HA3.out.below hb4)
        have HV4 := hid (HV3.out.below hb4)
        clear hb4 HB3 HA3 HV3
        go_wp2_with fail
        refine (HI.out _ HA4.out HV4.out).mono ?_
        rintro e w5 ⟨rfl, hb5⟩
        have HB5 := hid (below_trans HB4.out hb5)
        clear hb5
        go_wp2_with fail
        go_ret
        exact ⟨rfl, HB5.out⟩
      · have hq := enc_beq n1 n2 m1 m2 hab
        rw [show (a == b) = false from beq_eq_false_iff_ne.2 hab] at HI
        rw [hn, hm]
        have e1 := strOf_list (enc (nats a))
        have e2 := strOf_list (enc (nats b))
        clear hn hm n1 n2 m1 m2 hab
        generalize enc (nats a) = X at *
        generalize enc (nats b) = Y at *
        go_wp2_with fail
        refine (first_calls _).mono ?_
        rintro e w4 ⟨rfl, hb4⟩
        have HB4 := hid (below_trans HB3.out hb4)
        have HA4 := hid (HA3.out.below hb4)
        have HV4 := hid (HV3.out.below hb4)
        clear hb4 HB3 HA3 HV3
        go_wp2_with fail
        refine (HI.out _ HA4.out HV4.out).mono ?_
        rintro e w5 ⟨rfl, hb5⟩
        have HB5 := hid (below_trans HB4.out hb5)
        clear hb5
        go_wp2_with fail
        go_ret
        exact ⟨rfl, HB5.out⟩
end Go.Proofs.Ytpjajiilgojbgaa
