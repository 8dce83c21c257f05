/- The walks of the document's To and Kind. -/
import Derived.Test.YtkbfjhdpepbphaaFoldGz
import Derived.Test.YtkbfjhdpepbphaaFoldK
import Derived.Test.YtkbfjhdpepbphaaFoldF
namespace Go.Proofs.Ytkbfjhdpepbphaa
open Go.RowKit
set_option linter.unusedVariables false
/-- What To of the document answers. -/
def ToPost (c : Int) (w : World) (e : Ending) (w' : World) : Prop := (∃ v', e = .returned v' ∧ IOwn w' w.heap.size v' (toR c)) ∧ Below w.heap.size w w'
theorem ToPost.lit {c : Int} {w : World} {e : Ending} {l : List Int} (h : toR c = l) (hl : l.length ≤ 1000) (he : e = .returned (.slice (some ⟨w.heap.size, 0, none⟩) l.length l.length)) : ToPost c w e (w.alloc (.cells (l.map fi).toArray 3)) :=
  ⟨⟨_, he, by rw [h]; exact Own.lit fi 3 w l hl⟩, below_alloc w _⟩

set_option maxRecDepth 20000 in
set_option maxHeartbeats 1000000 in
theorem rto_small (c k : Int) (w : World) (hk : smallR c = k) (h : 0 < k) : Calls Try.prog 12 #[.int .i64 c] w fun e w' => ToPost c w e w' := by
  have HT : Hid (toR c = [k]) := by show _ = _; unfold toR; rw [hk, if_pos h]
  have HK := hid hk
  clear hk
  go_enter Try.func12, Try.ntmps12
  go_wp2_with fail
  refine (small_calls c _).mono ?_
  rintro e _ ⟨rfl, rfl⟩
  rw [HK.out]
  go_wp2_with fail
  go_ret
  exact ToPost.lit HT.out (by simp) rfl

set_option maxRecDepth 20000 in
set_option maxHeartbeats 1000000 in
theorem rto_304 (w : World) : Calls Try.prog 12 #[.int .i64 304] w fun e w' => ToPost 304 w e w' := by
  have HT : Hid (toR 304 = [105, 775]) := by show _ = _; decide +kernel
  have HK : Hid (smallR 304 = 0) := by show _ = _; decide +kernel
  go_enter Try.func12, Try.ntmps12
  go_wp2_with fail
  refine (small_calls 304 _).mono ?_
  rintro e _ ⟨rfl, rfl⟩
  rw [HK.out]
  go_wp2_with fail
  go_ret
  exact ToPost.lit HT.out (by decide) rfl

set_option maxRecDepth 20000 in
set_option maxHeartbeats 1000000 in
theorem rto_329 (w : World) : Calls Try.prog 12 #[.int .i64 329] w fun e w' => ToPost 329 w e w' := by
  have HT : Hid (toR 329 = [700, 110]) := by show _ = _; decide +kernel
  have HK : Hid (smallR 329 = 0) := by show _ = _; decide +kernel
  go_enter Try.func12, Try.ntmps12
  go_wp2_with fail
  refine (small_calls 329 _).mono ?_
  rintro e _ ⟨rfl, rfl⟩
  rw [HK.out]
  go_wp2_with fail
  go_ret
  exact ToPost.lit HT.out (by decide) rfl

set_option maxRecDepth 20000 in
set_option maxHeartbeats 1000000 in
theorem rto_12290 (w : World) : Calls Try.prog 12 #[.int .i64 12290] w fun e w' => ToPost 12290 w e w' := by
  have HT : Hid (toR 12290 = [46]) := by show _ = _; decide +kernel
  have HK : Hid (smallR 12290 = 0) := by show _ = _; decide +kernel
  go_enter Try.func12, Try.ntmps12
  go_wp2_with fail
  refine (small_calls 12290 _).mono ?_
  rintro e _ ⟨rfl, rfl⟩
  rw [HK.out]
  go_wp2_with fail
  go_ret
  exact ToPost.lit HT.out (by decide) rfl

set_option maxRecDepth 20000 in
set_option maxHeartbeats 1000000 in
theorem rto_65294 (w : World) : Calls Try.prog 12 #[.int .i64 65294] w fun e w' => ToPost 65294 w e w' := by
  have HT : Hid (toR 65294 = [46]) := by show _ = _; decide +kernel
  have HK : Hid (smallR 65294 = 0) := by show _ = _; decide +kernel
  go_enter Try.func12, Try.ntmps12
  go_wp2_with fail
  refine (small_calls 65294 _).mono ?_
  rintro e _ ⟨rfl, rfl⟩
  rw [HK.out]
  go_wp2_with fail
  go_ret
  exact ToPost.lit HT.out (by decide) rfl

set_option maxRecDepth 20000 in
set_option maxHeartbeats 1000000 in
theorem rto_65377 (w : World) : Calls Try.prog 12 #[.int .i64 65377] w fun e w' => ToPost 65377 w e w' := by
  have HT : Hid (toR 65377 = [46]) := by show _ = _; decide +kernel
  have HK : Hid (smallR 65377 = 0) := by show _ = _; decide +kernel
  go_enter Try.func12, Try.ntmps12
  go_wp2_with fail
  refine (small_calls 65377 _).mono ?_
  rintro e _ ⟨rfl, rfl⟩
  rw [HK.out]
  go_wp2_with fail
  go_ret
  exact ToPost.lit HT.out (by decide) rfl

set_option maxRecDepth 20000 in
set_option maxHeartbeats 1000000 in
theorem rto_170 (w : World) : Calls Try.prog 12 #[.int .i64 170] w fun e w' => ToPost 170 w e w' := by
  have HT : Hid (toR 170 = [97]) := by show _ = _; decide +kernel
  have HK : Hid (smallR 170 = 0) := by show _ = _; decide +kernel
  go_enter Try.func12, Try.ntmps12
  go_wp2_with fail
  refine (small_calls 170 _).mono ?_
  rintro e _ ⟨rfl, rfl⟩
  rw [HK.out]
  go_wp2_with fail
  refine (within_f 170 65281 65374 _ (by decide)).mono ?_
  rintro e _ ⟨rfl, rfl⟩
  go_wp2_with fail
  go_ret
  exact ToPost.lit HT.out (by decide) rfl

set_option maxRecDepth 20000 in
set_option maxHeartbeats 1000000 in
theorem rto_186 (w : World) : Calls Try.prog 12 #[.int .i64 186] w fun e w' => ToPost 186 w e w' := by
  have HT : Hid (toR 186 = [111]) := by show _ = _; decide +kernel
  have HK : Hid (smallR 186 = 0) := by show _ = _; decide +kernel
  go_enter Try.func12, Try.ntmps12
  go_wp2_with fail
  refine (small_calls 186 _).mono ?_
  rintro e _ ⟨rfl, rfl⟩
  rw [HK.out]
  go_wp2_with fail
  refine (within_f 186 65281 65374 _ (by decide)).mono ?_
  rintro e _ ⟨rfl, rfl⟩
  go_wp2_with fail
  go_ret
  exact ToPost.lit HT.out (by decide) rfl

set_option maxRecDepth 20000 in
set_option maxHeartbeats 1000000 in
theorem rto_178 (w : World) : Calls Try.prog 12 #[.int .i64 178] w fun e w' => ToPost 178 w e w' := by
  have HT : Hid (toR 178 = [50]) := by show _ = _; decide +kernel
  have HK : Hid (smallR 178 = 0) := by show _ = _; decide +kernel
  go_enter Try.func12, Try.ntmps12
  go_wp2_with fail
  refine (small_calls 178 _).mono ?_
  rintro e _ ⟨rfl, rfl⟩
  rw [HK.out]
  go_wp2_with fail
  refine (within_f 178 65281 65374 _ (by decide)).mono ?_
  rintro e _ ⟨rfl, rfl⟩
  go_wp2_with fail
  go_ret
  exact ToPost.lit HT.out (by decide) rfl

set_option maxRecDepth 20000 in
set_option maxHeartbeats 1000000 in
theorem rto_179 (w : World) : Calls Try.prog 12 #[.int .i64 179] w fun e w' => ToPost 179 w e w' := by
  have HT : Hid (toR 179 = [51]) := by show _ = _; decide +kernel
  have HK : Hid (smallR 179 = 0) := by show _ = _; decide +kernel
  go_enter Try.func12, Try.ntmps12
  go_wp2_with fail
  refine (small_calls 179 _).mono ?_
  rintro e _ ⟨rfl, rfl⟩
  rw [HK.out]
  go_wp2_with fail
  refine (within_f 179 65281 65374 _ (by decide)).mono ?_
  rintro e _ ⟨rfl, rfl⟩
  go_wp2_with fail
  go_ret
  exact ToPost.lit HT.out (by decide) rfl

set_option maxRecDepth 20000 in
set_option maxHeartbeats 1000000 in
theorem rto_185 (w : World) : Calls Try.prog 12 #[.int .i64 185] w fun e w' => ToPost 185 w e w' := by
  have HT : Hid (toR 185 = [49]) := by show _ = _; decide +kernel
  have HK : Hid (smallR 185 = 0) := by show _ = _; decide +kernel
  go_enter Try.func12, Try.ntmps12
  go_wp2_with fail
  refine (small_calls 185 _).mono ?_
  rintro e _ ⟨rfl, rfl⟩
  rw [HK.out]
  go_wp2_with fail
  refine (within_f 185 65281 65374 _ (by decide)).mono ?_
  rintro e _ ⟨rfl, rfl⟩
  go_wp2_with fail
  go_ret
  exact ToPost.lit HT.out (by decide) rfl

set_option maxRecDepth 20000 in
set_option maxHeartbeats 1000000 in
theorem rto_8462 (w : World) : Calls Try.prog 12 #[.int .i64 8462] w fun e w' => ToPost 8462 w e w' := by
  have HT : Hid (toR 8462 = [104]) := by show _ = _; decide +kernel
  have HK : Hid (smallR 8462 = 0) := by show _ = _; decide +kernel
  go_enter Try.func12, Try.ntmps12
  go_wp2_with fail
  refine (small_calls 8462 _).mono ?_
  rintro e _ ⟨rfl, rfl⟩
  rw [HK.out]
  go_wp2_with fail
  refine (within_f 8462 65281 65374 _ (by decide)).mono ?_
  rintro e _ ⟨rfl, rfl⟩
  go_wp2_with fail
  refine (within_f 8462 9312 9320 _ (by decide)).mono ?_
  rintro e _ ⟨rfl, rfl⟩
  go_wp2_with fail
  go_ret
  exact ToPost.lit HT.out (by decide) rfl

set_option maxRecDepth 20000 in
set_option maxHeartbeats 1000000 in
theorem rto_wide0 (c : Int) (w : World) (h1 : 65281 ≤ c) (h2 : c ≤ 65374) (h3 : c ≠ 65294) (hk : smallR (c - 65248) = 0) : Calls Try.prog 12 #[.int .i64 c] w fun e w' => ToPost c w e w' := by
  have HH := hid (And.intro h1 (And.intro h2 h3))
  have t304 : (c == 304) = false := by rw [beq_eq_false_iff_ne]; have := HH.out; omega
  have t329 : (c == 329) = false := by rw [beq_eq_false_iff_ne]; have := HH.out; omega
  have t12290 : (c == 12290) = false := by rw [beq_eq_false_iff_ne]; have := HH.out; omega
  have t65294 : (c == 65294) = false := by rw [beq_eq_false_iff_ne]; have := HH.out; omega
  have t65377 : (c == 65377) = false := by rw [beq_eq_false_iff_ne]; have := HH.out; omega
  have HT : Hid (toR c = [c - 65248]) := by
    show _ = _
    unfold toR
    rw [small_high (by omega), t304, t329, t12290, t65294, t65377, win_yes h1 h2, hk]
    rfl
  have HS := hid (small_high (c := c) (by omega))
  have HK := hid hk
  clear hk h3
  go_enter Try.func12, Try.ntmps12
  go_wp2_with fail
  refine (small_calls c _).mono ?_
  rintro e _ ⟨rfl, rfl⟩
  rw [HS.out]
  go_wp2_with fail
  refine (within_t c 65281 65374 _ (by have := HH.out; omega) (by have := HH.out; omega)).mono ?_
  rintro e _ ⟨rfl, rfl⟩
  go_wp2_with fail
  refine (small_calls (c - 65248) _).mono ?_
  rintro e _ ⟨rfl, rfl⟩
  rw [HK.out]
  go_wp2_with fail
  go_ret
  exact ToPost.lit HT.out (by simp) rfl

set_option maxRecDepth 20000 in
set_option maxHeartbeats 1000000 in
theorem rto_wide1 (c : Int) (w : World) (h1 : 65281 ≤ c) (h2 : c ≤ 65374) (h3 : c ≠ 65294) (k : Int) (hk : smallR (c - 65248) = k) (h : 0 < k) : Calls Try.prog 12 #[.int .i64 c] w fun e w' => ToPost c w e w' := by
  have HH := hid (And.intro h1 (And.intro h2 h3))
  have t304 : (c == 304) = false := by rw [beq_eq_false_iff_ne]; have := HH.out; omega
  have t329 : (c == 329) = false := by rw [beq_eq_false_iff_ne]; have := HH.out; omega
  have t12290 : (c == 12290) = false := by rw [beq_eq_false_iff_ne]; have := HH.out; omega
  have t65294 : (c == 65294) = false := by rw [beq_eq_false_iff_ne]; have := HH.out; omega
  have t65377 : (c == 65377) = false := by rw [beq_eq_false_iff_ne]; have := HH.out; omega
  have tk : (k == 0) = false := by rw [beq_eq_false_iff_ne]; omega
  have HT : Hid (toR c = [k]) := by
    show _ = _
    unfold toR
    rw [small_high (by omega), t304, t329, t12290, t65294, t65377, win_yes h1 h2, hk]
    rw [tk]; rfl
  have HS := hid (small_high (c := c) (by omega))
  have HK := hid hk
  clear hk h3
  go_enter Try.func12, Try.ntmps12
  go_wp2_with fail
  refine (small_calls c _).mono ?_
  rintro e _ ⟨rfl, rfl⟩
  rw [HS.out]
  go_wp2_with fail
  refine (within_t c 65281 65374 _ (by have := HH.out; omega) (by have := HH.out; omega)).mono ?_
  rintro e _ ⟨rfl, rfl⟩
  go_wp2_with fail
  refine (small_calls (c - 65248) _).mono ?_
  rintro e _ ⟨rfl, rfl⟩
  rw [HK.out]
  go_wp2_with fail
  go_ret
  exact ToPost.lit HT.out (by simp) rfl

set_option maxRecDepth 20000 in
set_option maxHeartbeats 1000000 in
theorem rto_ring (c : Int) (w : World) (h1 : 9312 ≤ c) (h2 : c ≤ 9320) : Calls Try.prog 12 #[.int .i64 c] w fun e w' => ToPost c w e w' := by
  have HH := hid (And.intro h1 h2)
  have t304 : (c == 304) = false := by rw [beq_eq_false_iff_ne]; have := HH.out; omega
  have t329 : (c == 329) = false := by rw [beq_eq_false_iff_ne]; have := HH.out; omega
  have t12290 : (c == 12290) = false := by rw [beq_eq_false_iff_ne]; have := HH.out; omega
  have t65294 : (c == 65294) = false := by rw [beq_eq_false_iff_ne]; have := HH.out; omega
  have t65377 : (c == 65377) = false := by rw [beq_eq_false_iff_ne]; have := HH.out; omega
  have t170 : (c == 170) = false := by rw [beq_eq_false_iff_ne]; have := HH.out; omega
  have t186 : (c == 186) = false := by rw [beq_eq_false_iff_ne]; have := HH.out; omega
  have t178 : (c == 178) = false := by rw [beq_eq_false_iff_ne]; have := HH.out; omega
  have t179 : (c == 179) = false := by rw [beq_eq_false_iff_ne]; have := HH.out; omega
  have t185 : (c == 185) = false := by rw [beq_eq_false_iff_ne]; have := HH.out; omega
  have HT : Hid (toR c = [c - 9312 + 49]) := by
    show _ = _
    unfold toR
    rw [small_high (by omega), t304, t329, t12290, t65294, t65377, win_no (by omega), t170, t186, t178, t179, t185, win_yes h1 h2]
    rfl
  have HS := hid (small_high (c := c) (by omega))
  go_enter Try.func12, Try.ntmps12
  go_wp2_with fail
  refine (small_calls c _).mono ?_
  rintro e _ ⟨rfl, rfl⟩
  rw [HS.out]
  go_wp2_with fail
  refine (within_f c 65281 65374 _ (by have := HH.out; omega)).mono ?_
  rintro e _ ⟨rfl, rfl⟩
  go_wp2_with fail
  refine (within_t c 9312 9320 _ (by have := HH.out; omega) (by have := HH.out; omega)).mono ?_
  rintro e _ ⟨rfl, rfl⟩
  go_wp2_with fail
  go_ret
  exact ToPost.lit HT.out (by simp) rfl

set_option maxRecDepth 20000 in
set_option maxHeartbeats 1000000 in
theorem rto_rest (c : Int) (w : World) (hk : smallR c = 0) (h1 : c < 65281 ∨ 65374 < c) (h2 : c < 9312 ∨ 9320 < c) (t304 : (c == 304) = false) (t329 : (c == 329) = false) (t12290 : (c == 12290) = false) (t65294 : (c == 65294) = false) (t65377 : (c == 65377) = false) (t170 : (c == 170) = false) (t186 : (c == 186) = false) (t178 : (c == 178) = false) (t179 : (c == 179) = false) (t185 : (c == 185) = false) (t8462 : (c == 8462) = false) : Calls Try.prog 12 #[.int .i64 c] w fun e w' => ToPost c w e w' := by
  have HT : Hid (toR c = []) := by
    show _ = _
    unfold toR
    rw [hk, t304, t329, t12290, t65294, t65377, win_no h1, t170, t186, t178, t179, t185, win_no h2, t8462]
    rfl
  have HK := hid hk
  have H1 := hid h1
  have H2 := hid h2
  clear hk h1 h2
  go_enter Try.func12, Try.ntmps12
  go_wp2_with fail
  refine (small_calls c _).mono ?_
  rintro e _ ⟨rfl, rfl⟩
  rw [HK.out]
  go_wp2_with fail
  refine (within_f c 65281 65374 _ H1.out).mono ?_
  rintro e _ ⟨rfl, rfl⟩
  go_wp2_with fail
  refine (within_f c 9312 9320 _ H2.out).mono ?_
  rintro e _ ⟨rfl, rfl⟩
  go_wp2_with fail
  go_ret
  exact ⟨⟨_, rfl, by rw [HT.out]; exact Own.nil _ _ _ _⟩, Below.refl _ _⟩

theorem small_le {c : Int} : 0 ≤ smallR c := by
  unfold smallR win
  repeat' split
  all_goals (try simp only [Bool.or_eq_true, Bool.and_eq_true, decide_eq_true_eq] at *) <;> omega
theorem rto_calls (c : Int) (w : World) : Calls Try.prog 12 #[.int .i64 c] w fun e w' => ToPost c w e w' := by
  by_cases hs : 0 < smallR c
  · exact rto_small c _ w rfl hs
  · have hk : smallR c = 0 := by have := small_le (c := c); omega
    by_cases n304 : c = 304
    · subst n304; exact rto_304 w
    by_cases n329 : c = 329
    · subst n329; exact rto_329 w
    by_cases n12290 : c = 12290
    · subst n12290; exact rto_12290 w
    by_cases n65294 : c = 65294
    · subst n65294; exact rto_65294 w
    by_cases n65377 : c = 65377
    · subst n65377; exact rto_65377 w
    by_cases n170 : c = 170
    · subst n170; exact rto_170 w
    by_cases n186 : c = 186
    · subst n186; exact rto_186 w
    by_cases n178 : c = 178
    · subst n178; exact rto_178 w
    by_cases n179 : c = 179
    · subst n179; exact rto_179 w
    by_cases n185 : c = 185
    · subst n185; exact rto_185 w
    by_cases n8462 : c = 8462
    · subst n8462; exact rto_8462 w
    by_cases h1 : 65281 ≤ c ∧ c ≤ 65374
    · by_cases h0 : smallR (c - 65248) = 0
      · exact rto_wide0 c w h1.1 h1.2 n65294 h0
      · exact rto_wide1 c w h1.1 h1.2 n65294 _ rfl (by have := small_le (c := c - 65248); omega)
    · by_cases h2 : 9312 ≤ c ∧ c ≤ 9320
      · exact rto_ring c w h2.1 h2.2
      · exact rto_rest c w hk (by omega) (by omega) (beq_eq_false_iff_ne.2 n304) (beq_eq_false_iff_ne.2 n329) (beq_eq_false_iff_ne.2 n12290) (beq_eq_false_iff_ne.2 n65294) (beq_eq_false_iff_ne.2 n65377) (beq_eq_false_iff_ne.2 n170) (beq_eq_false_iff_ne.2 n186) (beq_eq_false_iff_ne.2 n178) (beq_eq_false_iff_ne.2 n179) (beq_eq_false_iff_ne.2 n185) (beq_eq_false_iff_ne.2 n8462)
end Go.Proofs.Ytkbfjhdpepbphaa
