/- The walks of the document's Kind. -/
import Derived.Test.YtkbfjhdpepbphaaFoldH
namespace Go.Proofs.Ytkbfjhdpepbphaa
open Go.RowKit
set_option linter.unusedVariables false

set_option maxRecDepth 20000 in
set_option maxHeartbeats 1000000 in
theorem rkind_173 (w : World) : Calls Try.prog 9 #[.int .i64 173] w fun e w' => e = .returned (.int .i64 (kindR 173)) ∧ Below w.heap.size w w' := by
  have HK : Hid (kindR 173 = 3) := by show _ = _; decide +kernel
  go_enter Try.func9, Try.ntmps9
  go_wp2_with fail
  go_ret
  exact ⟨by rw [HK.out]; rfl, Below.refl _ _⟩

set_option maxRecDepth 20000 in
set_option maxHeartbeats 1000000 in
theorem rkind_8203 (w : World) : Calls Try.prog 9 #[.int .i64 8203] w fun e w' => e = .returned (.int .i64 (kindR 8203)) ∧ Below w.heap.size w w' := by
  have HK : Hid (kindR 8203 = 3) := by show _ = _; decide +kernel
  go_enter Try.func9, Try.ntmps9
  go_wp2_with fail
  go_ret
  exact ⟨by rw [HK.out]; rfl, Below.refl _ _⟩

set_option maxRecDepth 20000 in
set_option maxHeartbeats 1000000 in
theorem rkind_8288 (w : World) : Calls Try.prog 9 #[.int .i64 8288] w fun e w' => e = .returned (.int .i64 (kindR 8288)) ∧ Below w.heap.size w w' := by
  have HK : Hid (kindR 8288 = 3) := by show _ = _; decide +kernel
  go_enter Try.func9, Try.ntmps9
  go_wp2_with fail
  go_ret
  exact ⟨by rw [HK.out]; rfl, Below.refl _ _⟩

set_option maxRecDepth 20000 in
set_option maxHeartbeats 1000000 in
theorem rkind_65279 (w : World) : Calls Try.prog 9 #[.int .i64 65279] w fun e w' => e = .returned (.int .i64 (kindR 65279)) ∧ Below w.heap.size w w' := by
  have HK : Hid (kindR 65279 = 3) := by show _ = _; decide +kernel
  go_enter Try.func9, Try.ntmps9
  go_wp2_with fail
  refine (within_f 65279 65024 65039 _ (by decide)).mono ?_
  rintro e _ ⟨rfl, rfl⟩
  go_wp2_with fail
  go_ret
  exact ⟨by rw [HK.out]; rfl, Below.refl _ _⟩

set_option maxRecDepth 20000 in
set_option maxHeartbeats 1000000 in
theorem rkind_marks (c : Int) (w : World) (h1 : 65024 ≤ c) (h2 : c ≤ 65039) : Calls Try.prog 9 #[.int .i64 c] w fun e w' => e = .returned (.int .i64 (kindR c)) ∧ Below w.heap.size w w' := by
  have HH := hid (And.intro h1 h2)
  have t173 : (c == 173) = false := by rw [beq_eq_false_iff_ne]; have := HH.out; omega
  have t8203 : (c == 8203) = false := by rw [beq_eq_false_iff_ne]; have := HH.out; omega
  have t8288 : (c == 8288) = false := by rw [beq_eq_false_iff_ne]; have := HH.out; omega
  have HK : Hid (kindR c = 3) := by
    show _ = _
    unfold kindR
    rw [t173, t8203, t8288, win_yes (lo := 65024) h1 h2]; rfl
  clear h1 h2
  go_enter Try.func9, Try.ntmps9
  go_wp2_with fail
  refine (within_t c 65024 65039 _ (by have := HH.out; omega) (by have := HH.out; omega)).mono ?_
  rintro e _ ⟨rfl, rfl⟩
  go_wp2_with fail
  go_ret
  exact ⟨by rw [HK.out]; rfl, Below.refl _ _⟩

set_option maxRecDepth 20000 in
set_option maxHeartbeats 1000000 in
theorem rkind_none (c : Int) (w : World) (t173 : (c == 173) = false) (t8203 : (c == 8203) = false) (t8288 : (c == 8288) = false) (h0 : c < 65024 ∨ 65039 < c) (t65279 : (c == 65279) = false) (hs : isS c = false) : Calls Try.prog 9 #[.int .i64 c] w fun e w' => e = .returned (.int .i64 (kindR c)) ∧ Below w.heap.size w w' := by
  have H0 := hid h0
  have HK : Hid (kindR c = 4) := by
    show _ = _
    unfold kindR
    rw [t173, t8203, t8288, win_no h0, t65279, hs]; rfl
  have HS := hid hs
  clear hs h0
  go_enter Try.func9, Try.ntmps9
  go_wp2_with fail
  refine (within_f c 65024 65039 _ H0.out).mono ?_
  rintro e _ ⟨rfl, rfl⟩
  go_wp2_with fail
  refine (rscalar_calls c _).mono ?_
  rintro e _ ⟨rfl, rfl⟩
  rw [HS.out]
  go_wp2_with fail
  go_ret
  exact ⟨by rw [HK.out]; rfl, Below.refl _ _⟩

set_option maxRecDepth 20000 in
set_option maxHeartbeats 1000000 in
theorem rkind_bad0 (c : Int) (w : World) (t173 : (c == 173) = false) (t8203 : (c == 8203) = false) (t8288 : (c == 8288) = false) (h0 : c < 65024 ∨ 65039 < c) (t65279 : (c == 65279) = false) (hs : isS c = true)  (h1 : 128 ≤ c) (h2 : c ≤ 160) : Calls Try.prog 9 #[.int .i64 c] w fun e w' => e = .returned (.int .i64 (kindR c)) ∧ Below w.heap.size w w' := by
  have H0 := hid h0
  have HK : Hid (kindR c = 4) := by
    show _ = _
    unfold kindR
    rw [t173, t8203, t8288, win_no h0, t65279, hs, win_yes (lo := 128) h1 h2]; rfl
  have HS := hid hs
  have HH := hid (And.intro h1 h2)
  clear hs h0 h1 h2 
  go_enter Try.func9, Try.ntmps9
  go_wp2_with fail
  refine (within_f c 65024 65039 _ H0.out).mono ?_
  rintro e _ ⟨rfl, rfl⟩
  go_wp2_with fail
  refine (rscalar_calls c _).mono ?_
  rintro e _ ⟨rfl, rfl⟩
  rw [HS.out]
  go_wp2_with fail
  refine (within_t c 128 160 _ (by have := HH.out; omega) (by have := HH.out; omega)).mono ?_
  rintro e _ ⟨rfl, rfl⟩
  go_wp2_with fail
  go_ret
  exact ⟨by rw [HK.out]; rfl, Below.refl _ _⟩

set_option maxRecDepth 20000 in
set_option maxHeartbeats 1000000 in
theorem rkind_bad1 (c : Int) (w : World) (t173 : (c == 173) = false) (t8203 : (c == 8203) = false) (t8288 : (c == 8288) = false) (h0 : c < 65024 ∨ 65039 < c) (t65279 : (c == 65279) = false) (hs : isS c = true) (n0 : c < 128 ∨ 160 < c) (h1 : 57344 ≤ c) (h2 : c ≤ 63743) : Calls Try.prog 9 #[.int .i64 c] w fun e w' => e = .returned (.int .i64 (kindR c)) ∧ Below w.heap.size w w' := by
  have H0 := hid h0
  have HK : Hid (kindR c = 4) := by
    show _ = _
    unfold kindR
    rw [t173, t8203, t8288, win_no h0, t65279, hs, win_no n0, win_yes (lo := 57344) h1 h2]; rfl
  have HS := hid hs
  have HH := hid (And.intro h1 h2)
  have N0 := hid n0
  clear hs h0 h1 h2 n0
  go_enter Try.func9, Try.ntmps9
  go_wp2_with fail
  refine (within_f c 65024 65039 _ H0.out).mono ?_
  rintro e _ ⟨rfl, rfl⟩
  go_wp2_with fail
  refine (rscalar_calls c _).mono ?_
  rintro e _ ⟨rfl, rfl⟩
  rw [HS.out]
  go_wp2_with fail
  refine (within_f c 128 160 _ N0.out).mono ?_
  rintro e _ ⟨rfl, rfl⟩
  go_wp2_with fail
  refine (within_t c 57344 63743 _ (by have := HH.out; omega) (by have := HH.out; omega)).mono ?_
  rintro e _ ⟨rfl, rfl⟩
  go_wp2_with fail
  go_ret
  exact ⟨by rw [HK.out]; rfl, Below.refl _ _⟩

set_option maxRecDepth 20000 in
set_option maxHeartbeats 1000000 in
theorem rkind_bad2 (c : Int) (w : World) (t173 : (c == 173) = false) (t8203 : (c == 8203) = false) (t8288 : (c == 8288) = false) (h0 : c < 65024 ∨ 65039 < c) (t65279 : (c == 65279) = false) (hs : isS c = true) (n0 : c < 128 ∨ 160 < c) (n1 : c < 57344 ∨ 63743 < c) (h1 : 64976 ≤ c) (h2 : c ≤ 65007) : Calls Try.prog 9 #[.int .i64 c] w fun e w' => e = .returned (.int .i64 (kindR c)) ∧ Below w.heap.size w w' := by
  have H0 := hid h0
  have HK : Hid (kindR c = 4) := by
    show _ = _
    unfold kindR
    rw [t173, t8203, t8288, win_no h0, t65279, hs, win_no n0, win_no n1, win_yes (lo := 64976) h1 h2]; rfl
  have HS := hid hs
  have HH := hid (And.intro h1 h2)
  have N0 := hid n0
  have N1 := hid n1
  clear hs h0 h1 h2 n0 n1
  go_enter Try.func9, Try.ntmps9
  go_wp2_with fail
  refine (within_f c 65024 65039 _ H0.out).mono ?_
  rintro e _ ⟨rfl, rfl⟩
  go_wp2_with fail
  refine (rscalar_calls c _).mono ?_
  rintro e _ ⟨rfl, rfl⟩
  rw [HS.out]
  go_wp2_with fail
  refine (within_f c 128 160 _ N0.out).mono ?_
  rintro e _ ⟨rfl, rfl⟩
  go_wp2_with fail
  refine (within_f c 57344 63743 _ N1.out).mono ?_
  rintro e _ ⟨rfl, rfl⟩
  go_wp2_with fail
  refine (within_t c 64976 65007 _ (by have := HH.out; omega) (by have := HH.out; omega)).mono ?_
  rintro e _ ⟨rfl, rfl⟩
  go_wp2_with fail
  go_ret
  exact ⟨by rw [HK.out]; rfl, Below.refl _ _⟩

set_option maxRecDepth 20000 in
set_option maxHeartbeats 1000000 in
theorem rkind_high (c : Int) (w : World) (t173 : (c == 173) = false) (t8203 : (c == 8203) = false) (t8288 : (c == 8288) = false) (h0 : c < 65024 ∨ 65039 < c) (t65279 : (c == 65279) = false) (hs : isS c = true) (n0 : c < 128 ∨ 160 < c) (n1 : c < 57344 ∨ 63743 < c) (n2 : c < 64976 ∨ 65007 < c) (hh : decide ((983040 : Int) ≤ c) = true) : Calls Try.prog 9 #[.int .i64 c] w fun e w' => e = .returned (.int .i64 (kindR c)) ∧ Below w.heap.size w w' := by
  have H0 := hid h0
  have HK : Hid (kindR c = 4) := by
    show _ = _
    unfold kindR
    rw [t173, t8203, t8288, win_no h0, t65279, hs, win_no n0, win_no n1, win_no n2, hh]; rfl
  have HS := hid hs
  have N0 := hid n0
  have N1 := hid n1
  have N2 := hid n2
  clear hs h0 n0 n1 n2
  go_enter Try.func9, Try.ntmps9
  go_wp2_with fail
  refine (within_f c 65024 65039 _ H0.out).mono ?_
  rintro e _ ⟨rfl, rfl⟩
  go_wp2_with fail
  refine (rscalar_calls c _).mono ?_
  rintro e _ ⟨rfl, rfl⟩
  rw [HS.out]
  go_wp2_with fail
  refine (within_f c 128 160 _ N0.out).mono ?_
  rintro e _ ⟨rfl, rfl⟩
  go_wp2_with fail
  refine (within_f c 57344 63743 _ N1.out).mono ?_
  rintro e _ ⟨rfl, rfl⟩
  go_wp2_with fail
  refine (within_f c 64976 65007 _ N2.out).mono ?_
  rintro e _ ⟨rfl, rfl⟩
  go_wp2_with fail
  go_ret
  exact ⟨by rw [HK.out]; rfl, Below.refl _ _⟩

set_option maxRecDepth 20000 in
set_option maxHeartbeats 1000000 in
theorem rkind_low (c : Int) (w : World) (t173 : (c == 173) = false) (t8203 : (c == 8203) = false) (t8288 : (c == 8288) = false) (h0 : c < 65024 ∨ 65039 < c) (t65279 : (c == 65279) = false) (hs : isS c = true) (n0 : c < 128 ∨ 160 < c) (n1 : c < 57344 ∨ 63743 < c) (n2 : c < 64976 ∨ 65007 < c) (hh : decide ((983040 : Int) ≤ c) = false) (hl : 65534 ≤ c % 65536) : Calls Try.prog 9 #[.int .i64 c] w fun e w' => e = .returned (.int .i64 (kindR c)) ∧ Below w.heap.size w w' := by
  have H0 := hid h0
  have HK : Hid (kindR c = 4) := by
    show _ = _
    unfold kindR
    rw [t173, t8203, t8288, win_no h0, t65279, hs, win_no n0, win_no n1, win_no n2, hh, decide_eq_true hl]; rfl
  obtain ⟨m, hm⟩ : ∃ m : Int, c % 65536 = m := ⟨_, rfl⟩
  have hb : bits .and .i64 c 65535 = m := by rw [← hm]; exact low_all (isS_iff.1 hs).1 (isS_iff.1 hs).2.1
  rw [hm] at hl
  have HS := hid hs
  have N0 := hid n0
  have N1 := hid n1
  have N2 := hid n2
  clear hs h0 n0 n1 n2 hm
  go_enter Try.func9, Try.ntmps9
  go_wp2_with fail
  refine (within_f c 65024 65039 _ H0.out).mono ?_
  rintro e _ ⟨rfl, rfl⟩
  go_wp2_with fail
  refine (rscalar_calls c _).mono ?_
  rintro e _ ⟨rfl, rfl⟩
  rw [HS.out]
  go_wp2_with fail
  refine (within_f c 128 160 _ N0.out).mono ?_
  rintro e _ ⟨rfl, rfl⟩
  go_wp2_with fail
  refine (within_f c 57344 63743 _ N1.out).mono ?_
  rintro e _ ⟨rfl, rfl⟩
  go_wp2_with fail
  refine (within_f c 64976 65007 _ N2.out).mono ?_
  rintro e _ ⟨rfl, rfl⟩
  go_wp2_with fail
  go_ret
  exact ⟨by rw [HK.out]; rfl, Below.refl _ _⟩

set_option maxRecDepth 20000 in
set_option maxHeartbeats 1000000 in
theorem rkind_rest (c : Int) (w : World) (t173 : (c == 173) = false) (t8203 : (c == 8203) = false) (t8288 : (c == 8288) = false) (h0 : c < 65024 ∨ 65039 < c) (t65279 : (c == 65279) = false) (hs : isS c = true) (n0 : c < 128 ∨ 160 < c) (n1 : c < 57344 ∨ 63743 < c) (n2 : c < 64976 ∨ 65007 < c) (hh : decide ((983040 : Int) ≤ c) = false) (hl : ¬ 65534 ≤ c % 65536) : Calls Try.prog 9 #[.int .i64 c] w fun e w' => e = .returned (.int .i64 (kindR c)) ∧ Below w.heap.size w w' := by
  have H0 := hid h0
  have HK : Hid (kindR c = if 0 < (toR c).length then 2 else 1) := by
    show _ = _
    unfold kindR
    rw [t173, t8203, t8288, win_no h0, t65279, hs, win_no n0, win_no n1, win_no n2, hh, decide_eq_false hl]; rfl
  obtain ⟨m, hm⟩ : ∃ m : Int, c % 65536 = m := ⟨_, rfl⟩
  have hb : bits .and .i64 c 65535 = m := by rw [← hm]; exact low_all (isS_iff.1 hs).1 (isS_iff.1 hs).2.1
  rw [hm] at hl
  have HS := hid hs
  have N0 := hid n0
  have N1 := hid n1
  have N2 := hid n2
  clear hs h0 n0 n1 n2 hm
  go_enter Try.func9, Try.ntmps9
  go_wp2_with fail
  refine (within_f c 65024 65039 _ H0.out).mono ?_
  rintro e _ ⟨rfl, rfl⟩
  go_wp2_with fail
  refine (rscalar_calls c _).mono ?_
  rintro e _ ⟨rfl, rfl⟩
  rw [HS.out]
  go_wp2_with fail
  refine (within_f c 128 160 _ N0.out).mono ?_
  rintro e _ ⟨rfl, rfl⟩
  go_wp2_with fail
  refine (within_f c 57344 63743 _ N1.out).mono ?_
  rintro e _ ⟨rfl, rfl⟩
  go_wp2_with fail
  refine (within_f c 64976 65007 _ N2.out).mono ?_
  rintro e _ ⟨rfl, rfl⟩
  go_wp2_with fail
  refine (rto_calls c _).mono ?_
  rintro e w1 ⟨⟨v', rfl, ho⟩, hb1⟩
  have HB1 := hid hb1
  obtain ⟨a', cap', rfl, -⟩ := ho.row
  clear hb1 ho
  by_cases hlen : 0 < (toR c).length
  · have hlen' : (0 : Int) < ((toR c).length : Int) := by omega
    rw [if_pos hlen] at HK
    clear hlen
    go_wp2_with fail
    go_ret
    exact ⟨by rw [HK.out]; rfl, HB1.out⟩
  · have hlen' : ((toR c).length : Int) = 0 := by omega
    rw [if_neg hlen] at HK
    clear hlen
    go_wp2_with fail
    go_ret
    exact ⟨by rw [HK.out]; rfl, HB1.out⟩

theorem rkind_calls (c : Int) (w : World) : Calls Try.prog 9 #[.int .i64 c] w fun e w' => e = .returned (.int .i64 (kindR c)) ∧ Below w.heap.size w w' := by
  by_cases n173 : c = 173
  · subst n173; exact rkind_173 w
  by_cases n8203 : c = 8203
  · subst n8203; exact rkind_8203 w
  by_cases n8288 : c = 8288
  · subst n8288; exact rkind_8288 w
  by_cases n65279 : c = 65279
  · subst n65279; exact rkind_65279 w
  by_cases h0 : 65024 ≤ c ∧ c ≤ 65039
  · exact rkind_marks c w h0.1 h0.2
  have t1 := beq_eq_false_iff_ne.2 n173
  have t2 := beq_eq_false_iff_ne.2 n8203
  have t3 := beq_eq_false_iff_ne.2 n8288
  have t4 := beq_eq_false_iff_ne.2 n65279
  have h0' : c < 65024 ∨ 65039 < c := by omega
  cases hs : isS c with
  | false => exact rkind_none c w t1 t2 t3 h0' t4 hs
  | true =>
    by_cases a0 : 128 ≤ c ∧ c ≤ 160
    · exact rkind_bad0 c w t1 t2 t3 h0' t4 hs a0.1 a0.2
    by_cases a1 : 57344 ≤ c ∧ c ≤ 63743
    · exact rkind_bad1 c w t1 t2 t3 h0' t4 hs (by omega) a1.1 a1.2
    by_cases a2 : 64976 ≤ c ∧ c ≤ 65007
    · exact rkind_bad2 c w t1 t2 t3 h0' t4 hs (by omega) (by omega) a2.1 a2.2
    by_cases a3 : 983040 ≤ c
    · exact rkind_high c w t1 t2 t3 h0' t4 hs (by omega) (by omega) (by omega) (decide_eq_true a3)
    by_cases a4 : 65534 ≤ c % 65536
    · exact rkind_low c w t1 t2 t3 h0' t4 hs (by omega) (by omega) (by omega) (decide_eq_false a3) a4
    · exact rkind_rest c w t1 t2 t3 h0' t4 hs (by omega) (by omega) (by omega) (decide_eq_false a3) a4
end Go.Proofs.Ytkbfjhdpepbphaa
