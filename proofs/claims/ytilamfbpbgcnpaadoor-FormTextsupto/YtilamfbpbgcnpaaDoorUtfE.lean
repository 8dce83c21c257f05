/- The walks of signs as bytes and as a text: Encode, Text (the program's and the document's); ints held against each other. -/
import Derived.Test.YtilamfbpbgcnpaaDoorBuF
namespace Go.Proofs.YtilamfbpbgcnpaaDoor
open Go.RowKit
set_option linter.unusedVariables false
set_option maxRecDepth 20000
set_option maxHeartbeats 1000000 in
theorem sign_calls (c : Nat) (w : World) (hc : c ≤ 1114111) :
    Calls Tryd.prog 54 #[.int .i64 (c : Int)] w fun e w' => (∃ v, e = .returned v ∧ BRow w' v (encN c)) ∧ Below w.heap.size w w' := by
  by_cases h1 : c < 128
  · rw [enc1 h1]
    have e0 := b8_nat c (by omega)
    generalize b8 c = x at *
    have HR : Hid (BRow (w.alloc (.cells #[.int .u8 (c : Int)] 5)) (.slice (some ⟨w.heap.size, 0, none⟩) 1 1) [x]) := by rw [← e0]; exact Row.lit fb w [x] 5 (0, 0) (by simp)
    have g1 : (c : Int) < 128 := by omega
    clear e0 hc h1
    go_enter Tryd.func54, Tryd.ntmps54
    go_wp2
    go_ret
    exact ⟨⟨_, rfl, HR.out⟩, (Below.refl _ _).alloc (Nat.le_refl _) _⟩
  · have l0 := low6 c (by omega)
    have k0 : c % 64 < 64 := Nat.mod_lt _ (by decide)
    have n0 := i64mark 128 (c % 64) 6 2 rfl k0 (by omega)
    by_cases h2 : c < 2048
    · rw [enc2 h1 h2]
      obtain ⟨p1, q1⟩ : ∃ p : Nat, p = c / 64 := ⟨_, rfl⟩
      have d1 : (c : Int) / 64 = (p1 : Int) := by omega
      have m1 := i64mark 192 p1 6 3 rfl (by omega) (by omega)
      rw [show ((192 : Nat) : Int) = 192 from rfl] at m1
      rw [show ((128 : Nat) : Int) = 128 from rfl] at n0
      rw [← q1]
      clear q1
      generalize c % 64 = r0 at *
      generalize b8 (192 + p1) = x0 at *
      generalize b8 (128 + r0) = x1 at *
      have HR := hid (Row.lit fb w [x0, x1] 5 (0, 0) (by simp))
      have y0 := byte_lt x0
      have y1 := byte_lt x1
      have g1 : ¬ (c : Int) < 128 := by omega
      have g2 : (c : Int) < 2048 := by omega
      clear hc h1 h2 k0
      go_enter Tryd.func54, Tryd.ntmps54
      go_wp2
      go_ret
      exact ⟨⟨_, rfl, HR.out⟩, (Below.refl _ _).alloc (Nat.le_refl _) _⟩
    · obtain ⟨p1, q1⟩ : ∃ p : Nat, p = c / 64 := ⟨_, rfl⟩
      obtain ⟨p2, q2⟩ : ∃ p : Nat, p = c / 4096 := ⟨_, rfl⟩
      have d1 : (c : Int) / 64 = (p1 : Int) := by omega
      have d2 : (c : Int) / 4096 = (p2 : Int) := by omega
      have l1 := low6 p1 (by omega)
      have k1 : p1 % 64 < 64 := Nat.mod_lt _ (by decide)
      have n1 := i64mark 128 (p1 % 64) 6 2 rfl k1 (by omega)
      by_cases h3 : c < 65536
      · rw [enc3 h2 h3]
        have m1 := i64mark 224 p2 5 7 rfl (by omega) (by omega)
        rw [show ((224 : Nat) : Int) = 224 from rfl] at m1
        rw [show ((128 : Nat) : Int) = 128 from rfl] at n0 n1
        rw [← q1, ← q2]
        clear q1 q2
        generalize c % 64 = r0 at *
        generalize p1 % 64 = r1 at *
        generalize b8 (224 + p2) = x0 at *
        generalize b8 (128 + r1) = x1 at *
        generalize b8 (128 + r0) = x2 at *
        have HR := hid (Row.lit fb w [x0, x1, x2] 5 (0, 0) (by simp))
        have y0 := byte_lt x0
        have y1 := byte_lt x1
        have y2 := byte_lt x2
        have g1 : ¬ (c : Int) < 128 := by omega
        have g2 : ¬ (c : Int) < 2048 := by omega
        have g3 : (c : Int) < 65536 := by omega
        clear hc h1 h2 h3 k0 k1
        go_enter Tryd.func54, Tryd.ntmps54
        go_wp2
        go_ret
        exact ⟨⟨_, rfl, HR.out⟩, (Below.refl _ _).alloc (Nat.le_refl _) _⟩
      · rw [enc4 h3]
        obtain ⟨p3, q3⟩ : ∃ p : Nat, p = c / 262144 := ⟨_, rfl⟩
        have d3 : (c : Int) / 262144 = (p3 : Int) := by omega
        have l2 := low6 p2 (by omega)
        have k2 : p2 % 64 < 64 := Nat.mod_lt _ (by decide)
        have n2 := i64mark 128 (p2 % 64) 6 2 rfl k2 (by omega)
        have m1 := i64mark 240 p3 4 15 rfl (by omega) (by omega)
        rw [show ((240 : Nat) : Int) = 240 from rfl] at m1
        rw [show ((128 : Nat) : Int) = 128 from rfl] at n0 n1 n2
        rw [← q1, ← q2, ← q3]
        clear q1 q2 q3
        generalize c % 64 = r0 at *
        generalize p1 % 64 = r1 at *
        generalize p2 % 64 = r2 at *
        generalize b8 (240 + p3) = x0 at *
        generalize b8 (128 + r2) = x1 at *
        generalize b8 (128 + r1) = x2 at *
        generalize b8 (128 + r0) = x3 at *
        have HR := hid (Row.lit fb w [x0, x1, x2, x3] 5 (0, 0) (by simp))
        have y0 := byte_lt x0
        have y1 := byte_lt x1
        have y2 := byte_lt x2
        have y3 := byte_lt x3
        have g1 : ¬ (c : Int) < 128 := by omega
        have g2 : ¬ (c : Int) < 2048 := by omega
        have g3 : ¬ (c : Int) < 65536 := by omega
        clear hc h1 h2 h3 k0 k1 k2
        go_enter Tryd.func54, Tryd.ntmps54
        go_wp2
        go_ret
        exact ⟨⟨_, rfl, HR.out⟩, (Below.refl _ _).alloc (Nat.le_refl _) _⟩

/-- What Encode answers. -/
def EncPost (l : List Int) (w : World) (e : Ending) (w' : World) : Prop := (∃ v, e = .returned (.tuple #[v, .int .i64 (errE l)]) ∧ BRow w' v (bytesE l)) ∧ Below w.heap.size w w'
theorem EncPost.yes {l : List Int} {w w' : World} {v : Value} (h : l.all isS = true) (hv : BRow w' v (encL l)) (hb : Below w.heap.size w w') : EncPost l w (.returned (.tuple #[v, .int .i64 0])) w' := by
  refine ⟨⟨v, ?_, ?_⟩, hb⟩
  · unfold errE; rw [if_pos h]
  · unfold bytesE; rw [if_pos h]; exact hv
theorem EncPost.no {l : List Int} {w w' : World} (h : l.all isS = false) (hb : Below w.heap.size w w') : EncPost l w (.returned (.tuple #[.slice none 0 0, .int .i64 1])) w' := by
  refine ⟨⟨.slice none 0 0, ?_, ?_⟩, hb⟩
  · unfold errE; rw [if_neg (by rw [h]; decide)]
  · unfold bytesE; rw [if_neg (by rw [h]; decide)]; exact Row.nil _ _
theorem enc_sofar (l : List Int) (k : Nat) (hl : l.length ≤ 100000) : (encL (l.take k)).length ≤ 400000 := by
  have := encL_len (l.take k)
  rw [List.length_take] at this
  omega
theorem text_sofar (l : List Int) (k : Nat) (hl : l.length ≤ 100000) : (encL ((l.take k).map fix)).length ≤ 400000 := by
  have := encL_len ((l.take k).map fix)
  rw [List.length_map, List.length_take] at this
  omega
theorem fix_yes {c : Int} (h : isS c = true) : fix c = c := by unfold fix; rw [if_pos h]
theorem fix_no {c : Int} (h : isS c = false) : fix c = 65533 := by unfold fix; rw [if_neg (by rw [h]; decide)]
set_option maxHeartbeats 1000000 in
theorem text_calls (v : Value) (l : List Int) (w : World) (hv : IRow w v l) (hl : l.length ≤ 100000) :
    Calls Tryd.prog 51 #[v] w fun e w' => e = .returned (.string (strOf (textL l))) ∧ Below w.heap.size w w' := by
  obtain ⟨a, cap, rfl, h1, h2, h3⟩ := hv
  have hmk := makeB l.length (by omega)
  have H3 := hid h3
  have HL := hid hl
  clear h3 hl
  unfold maxLen at h2
  go_enter Tryd.func51, Tryd.ntmps51
  go_wp2
  go_loopw [3, 11] (fun v i wr => ∃ k : Nat, k ≤ l.length ∧ i = .int .i64 k ∧ BOwn wr w.heap.size v (encL ((l.take k).map fix)) ∧ Below w.heap.size w wr) (fun _ i _ => l.length - (intOf i).toNat)
  case atStart => exact ⟨0, Nat.zero_le _, rfl, Own.made fb 5 w _ _ (size_madeCells _ _) (by have := HL.out; omega), (Below.refl _ _).alloc (Nat.le_refl _) _⟩
  case round =>
    obtain ⟨k, hk, rfl, ho, hb⟩ := hrel
    clear hmk
    by_cases hlt : k < l.length
    · obtain ⟨b, off, rfl, hbl, hc⟩ := H3.out (by intro h; simp [h] at hlt)
      have hck : wr.cell? ⟨b, off + k, none⟩ = some (.int .i64 l[k]) := (hb.cell (p := ⟨b, off + k, none⟩) hbl).trans (hc k hlt)
      clear hc
      have HN := hid (text_snoc l k hlt)
      have HS := hid hb.size
      have HE := hid (text_sofar l k HL.out)
      have HO := hid ho
      have HB := hid hb
      clear ho hb
      generalize l[k] = c at *
      have k1 : (k : Int) < (l.length : Int) := by omega
      go_wp2_with fail
      refine (scalar_calls _ _).mono ?_
      rintro e w1 ⟨rfl, rfl⟩
      cases hs : isS c with
      | false =>
        rw [fix_no hs] at HN
        have HC := hid (appendSign_calls _ _ 65533 w1 _ HO.out HS.out (by have := HE.out; omega) (by decide))
        clear hs
        go_wp2_with fail
        refine HC.out.mono ?_
        rintro e w2 ⟨⟨v2, rfl, ho2⟩, hb2⟩
        have HO2 := hid ho2
        have HB2 := hid (HB.out.trans hb2)
        clear ho2 hb2 HO HB hck
        go_wp2_with fail
        go_roundw
        case rel => exact ⟨k + 1, by omega, by go_num, by rw [HN.out]; exact HO2.out, HB2.out⟩
        case measure => simp [intOf]; omega
      | true =>
        rw [fix_yes hs] at HN
        have hc := isS_iff.1 hs
        obtain ⟨n, rfl⟩ := Int.eq_ofNat_of_zero_le hc.1
        have HC := hid (appendSign_calls _ _ n w1 _ HO.out HS.out (by have := HE.out; omega) (by omega))
        clear hs hc
        go_wp2_with fail
        refine HC.out.mono ?_
        rintro e w2 ⟨⟨v2, rfl, ho2⟩, hb2⟩
        have HO2 := hid ho2
        have HB2 := hid (HB.out.trans hb2)
        clear ho2 hb2 HO HB hck
        go_wp2_with fail
        go_roundw
        case rel => exact ⟨k + 1, by omega, by go_num, by rw [HN.out]; exact HO2.out, HB2.out⟩
        case measure => simp [intOf]; omega
    · have hr := run_string (by have := ho.row; rwa [List.take_of_length_le (by omega)] at this : BRow wr _ (textL l))
      have HB := hid hb
      clear ho hb
      go_wp2
      go_ret
      exact ⟨rfl, HB.out⟩
set_option maxHeartbeats 1000000 in
theorem rtext_calls (v : Value) (l : List Int) (w : World) (hv : IRow w v l) (hl : l.length ≤ 100000) :
    Calls Tryd.prog 34 #[v] w fun e w' => e = .returned (.string (strOf (textL l))) ∧ Below w.heap.size w w' := by
  obtain ⟨a, cap, rfl, h1, h2, h3⟩ := hv
  have H3 := hid h3
  have HL := hid hl
  clear h3 hl
  unfold maxLen at h2
  go_enter Tryd.func34, Tryd.ntmps34
  go_wp2
  go_loopw [3, 4] (fun v i wr => ∃ k : Nat, k ≤ l.length ∧ i = .int .i64 k ∧ BOwn wr w.heap.size v (encL ((l.take k).map fix)) ∧ Below w.heap.size w wr) (fun _ i _ => l.length - (intOf i).toNat)
  case atStart => exact ⟨0, Nat.zero_le _, rfl, Own.nil _ _ _ _, Below.refl _ _⟩
  case round =>
    obtain ⟨k, hk, rfl, ho, hb⟩ := hrel
    by_cases hlt : k < l.length
    · obtain ⟨b, off, rfl, hbl, hc⟩ := H3.out (by intro h; simp [h] at hlt)
      have hck : wr.cell? ⟨b, off + k, none⟩ = some (.int .i64 l[k]) := (hb.cell (p := ⟨b, off + k, none⟩) hbl).trans (hc k hlt)
      clear hc
      have HN := hid (text_snoc l k hlt)
      have HS := hid hb.size
      have HE := hid (text_sofar l k HL.out)
      have HO := hid ho
      have HB := hid hb
      clear ho hb
      generalize l[k] = c at *
      have k1 : (k : Int) < (l.length : Int) := by omega
      go_wp2_with fail
      refine (rscalar_calls _ _).mono ?_
      rintro e w1 ⟨rfl, rfl⟩
      cases hs : isS c with
      | false =>
        rw [fix_no hs] at HN
        have HC := hid (sign_calls 65533 w1 (by decide))
        clear hs
        go_wp2_with fail
        refine HC.out.mono ?_
        rintro e w2 ⟨⟨v2, rfl, ho2⟩, hb2⟩
        obtain ⟨v3, w3, hr, ho3, hg⟩ := append_run (HO.out.below hb2) ho2 (by have := HE.out; have := (enc_len 65533).2; omega) (Nat.le_trans HS.out hb2.size)
        have HO3 := hid ho3
        have HB3 := hid ((HB.out.trans (hb2.mono HS.out)).grown hg (Nat.le_trans HS.out hb2.size) (Own.lt HO.out))
        clear ho2 hb2 HO HB hck ho3 hg HC
        go_wp2_with (at_builtin; go_must (refine wpList_append_run hr rfl _ _ rfl rfl rfl rfl ?_))
        go_roundw
        case rel => exact ⟨k + 1, by omega, by go_num, by rw [HN.out]; exact HO3.out, HB3.out⟩
        case measure => simp [intOf]; omega
      | true =>
        rw [fix_yes hs] at HN
        have hc := isS_iff.1 hs
        obtain ⟨n, rfl⟩ := Int.eq_ofNat_of_zero_le hc.1
        have HC := hid (sign_calls n w1 (by omega))
        clear hs hc
        go_wp2_with fail
        refine HC.out.mono ?_
        rintro e w2 ⟨⟨v2, rfl, ho2⟩, hb2⟩
        obtain ⟨v3, w3, hr, ho3, hg⟩ := append_run (HO.out.below hb2) ho2 (by have := HE.out; have := (enc_len n).2; omega) (Nat.le_trans HS.out hb2.size)
        have HO3 := hid ho3
        have HB3 := hid ((HB.out.trans (hb2.mono HS.out)).grown hg (Nat.le_trans HS.out hb2.size) (Own.lt HO.out))
        clear ho2 hb2 HO HB hck ho3 hg HC
        go_wp2_with (at_builtin; go_must (refine wpList_append_run hr rfl _ _ rfl rfl rfl rfl ?_))
        go_roundw
        case rel => exact ⟨k + 1, by omega, by go_num, by rw [HN.out]; exact HO3.out, HB3.out⟩
        case measure => simp [intOf]; omega
    · have hr := run_string (by have := ho.row; rwa [List.take_of_length_le (by omega)] at this : BRow wr _ (textL l))
      have HB := hid hb
      clear ho hb
      go_wp2
      go_ret
      exact ⟨rfl, HB.out⟩
end Go.Proofs.YtilamfbpbgcnpaaDoor
