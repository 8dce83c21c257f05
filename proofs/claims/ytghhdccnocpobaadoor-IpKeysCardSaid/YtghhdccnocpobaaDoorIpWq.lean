/- The program's readPieces. -/
import Derived.Test.YtghhdccnocpobaaDoorIpWo
import Derived.Handy
namespace Go.Proofs.YtghhdccnocpobaaDoor
open Go.RowKit
set_option linter.unusedVariables false
set_option maxRecDepth 20000
set_option linter.unusedSimpArgs false
theorem pcR_four {p : List UInt8} (h : 1 < (splitR 46 p).length) : pcR true p = fourR p := if_pos ⟨rfl, h⟩
theorem pcR_bad {dec : Bool} {p : List UInt8} (h : ¬ (dec = true ∧ 1 < (splitR 46 p).length)) (hb : p = [] ∨ 4 < p.length ∨ digsR 16 p = false) : pcR dec p = none := by unfold pcR; rw [if_neg h, if_pos hb]
theorem pcR_good {dec : Bool} {p : List UInt8} (h : ¬ (dec = true ∧ 1 < (splitR 46 p).length)) (hb : ¬ (p = [] ∨ 4 < p.length ∨ digsR 16 p = false)) : pcR dec p = some [valX 16 p] := by unfold pcR; rw [if_neg h, if_neg hb]
theorem sat_hex {p : List UInt8} (hd : digsR 16 p = true) (hl : ¬ 4 < p.length) : satR 16 p = valX 16 p ∧ valX 16 p < 65536 := by
  have hlt := valX_lt (b := 16) p.length p rfl hd
  have hle : 16 ^ p.length ≤ 16 ^ 4 := Nat.pow_le_pow_right (by decide) (by omega)
  have h6 : (16 : Nat) ^ 4 = 65536 := by decide
  rw [satR_eq 16 (by decide) _ p rfl]
  omega
theorem RPost.any {r : Option (List Nat)} {w w' : World} {b : Bool} (x0 x1 x2 x3 x4 x5 x6 x7 c : Nat) (hc : c ≤ 8) (hn : ∀ ns, r = some ns → c = ns.length ∧ [x0, x1, x2, x3, x4, x5, x6, x7] = ns ++ List.replicate (8 - ns.length) 0) (hr : r.isSome = b) (hb : Below w.heap.size w w') : RPost r w (.returned (.tuple #[.agg #[.int .u16 (x0 : Int), .int .u16 (x1 : Int), .int .u16 (x2 : Int), .int .u16 (x3 : Int), .int .u16 (x4 : Int), .int .u16 (x5 : Int), .int .u16 (x6 : Int), .int .u16 (x7 : Int), .int .i64 (c : Int)], .bool b])) w' :=
  ⟨_, ⟨x0, x1, x2, x3, x4, x5, x6, x7, c, rfl, hc, hn⟩, by rw [hr], hb⟩

set_option maxHeartbeats 8000000 in
theorem pread_four (s : ByteArray) (w : World) (hs : s.size ≤ 100000) (hm : 1 < (splitR 46 s.data.toList).length) : Calls Tryd.prog 54 #[.string s, .bool true] w fun e w' => RPost (pcR true s.data.toList) w e w' := by
  rw [pcR_four hm]
  have HS := hid hs
  have HZ := hid (zero9_world w)
  have HB0 := hid ((Below.refl w.heap.size w).alloc (Nat.le_refl _) (.cells #[.int .u16 0, .int .u16 0, .int .u16 0, .int .u16 0, .int .u16 0, .int .u16 0, .int .u16 0, .int .u16 0, .int .i64 0] 78))
  have HCo := hid (fun w => pcont_calls s w)
  rw [decide_eq_true hm] at HCo
  clear hm
  clear hs
  go_enter Tryd.func54, Tryd.ntmps54
  go_wp2_with fail
  refine (HCo.out _).mono ?_
  rintro e wz ⟨rfl, rfl⟩
  go_wp2_with fail
  refine (pdec_calls s _ HS.out).mono ?_
  rintro e w1 ⟨v, ⟨x0, x1, x2, x3, x4, x5, x6, x7, c, rfl, hc8, hns⟩, rfl, hb⟩
  have HZ1 := hid (HZ.out.below hb)
  have HB1 := hid (below_trans HB0.out hb)
  have HC8 := hid hc8
  have HNS := hid hns
  clear HZ HB0 hb hc8 hns
  obtain ⟨G, hG⟩ : ∃ G, w.heap.size = G := ⟨_, rfl⟩
  have HGl : Hid (w.heap.size ≤ G) := Nat.le_of_eq hG
  rw [hG] at HZ1 ⊢
  clear hG
  obtain ⟨⟨c0, c1, c2, c3, c4, c5, c6, c7, c8⟩, ⟨f0, f1, f2, f3, f4, f5, f6, f7, f8⟩⟩ := cells9 (y0 := .int .u16 0) (y1 := .int .u16 0) (y2 := .int .u16 0) (y3 := .int .u16 0) (y4 := .int .u16 0) (y5 := .int .u16 0) (y6 := .int .u16 0) (y7 := .int .u16 0) (y8 := .int .i64 0) HZ1.out
  have HFill := hid (fill9 (y0 := .int .u16 0) (y1 := .int .u16 0) (y2 := .int .u16 0) (y3 := .int .u16 0) (y4 := .int .u16 0) (y5 := .int .u16 0) (y6 := .int .u16 0) (y7 := .int .u16 0) (y8 := .int .i64 0) HZ1.out HB1.out HGl.out HB1.out.size (.int .u16 (x0 : Int)) (.int .u16 (x1 : Int)) (.int .u16 (x2 : Int)) (.int .u16 (x3 : Int)) (.int .u16 (x4 : Int)) (.int .u16 (x5 : Int)) (.int .u16 (x6 : Int)) (.int .u16 (x7 : Int)) (.int .i64 (c : Int)))
  have HIS : Hid ((fourR s.data.toList).isSome = (fourR s.data.toList).isSome) := rfl
  have HFin := hid (fun w' (hb : Below w.heap.size w w') => RPost.any (w := w) (w' := w') x0 x1 x2 x3 x4 x5 x6 x7 c HC8.out HNS.out HIS.out hb)
  clear HC8 HNS HIS
  generalize (fourR s.data.toList).isSome = bo at *
  go_wp2_with fail
  generalize (((((((((w1.setCell ⟨G, 0, none⟩ (.int .u16 (x0 : Int))).setCell ⟨G, 1, none⟩ (.int .u16 (x1 : Int))).setCell ⟨G, 2, none⟩ (.int .u16 (x2 : Int))).setCell ⟨G, 3, none⟩ (.int .u16 (x3 : Int))).setCell ⟨G, 4, none⟩ (.int .u16 (x4 : Int))).setCell ⟨G, 5, none⟩ (.int .u16 (x5 : Int))).setCell ⟨G, 6, none⟩ (.int .u16 (x6 : Int))).setCell ⟨G, 7, none⟩ (.int .u16 (x7 : Int))).setCell ⟨G, 8, none⟩ (.int .i64 (c : Int))) = W9 at *
  obtain ⟨⟨g0, g1, g2, g3, g4, g5, g6, g7, g8⟩, -⟩ := cells9 HFill.out.1
  have HBL := hid HFill.out.2
  clear HFill c0 c1 c2 c3 c4 c5 c6 c7 c8 f0 f1 f2 f3 f4 f5 f6 f7 f8
  refine bodyPost_ret (by simp [results, Tryd.results54, go_sem, g0, g1, g2, g3, g4, g5, g6, g7, g8]; try rfl) rfl ?_
  exact HFin.out _ HBL.out
set_option maxHeartbeats 8000000 in
theorem pread_false_a (s : ByteArray) (w : World) (hs : s.size ≤ 100000) (hm : ¬ (false = true ∧ 1 < (splitR 46 s.data.toList).length)) (h0 : s.size = 0) : Calls Tryd.prog 54 #[.string s, .bool false] w fun e w' => RPost (pcR false s.data.toList) w e w' := by
  have HS := hid hs
  have HZ := hid (zero9_world w)
  have HB0 := hid ((Below.refl w.heap.size w).alloc (Nat.le_refl _) (.cells #[.int .u16 0, .int .u16 0, .int .u16 0, .int .u16 0, .int .u16 0, .int .u16 0, .int .u16 0, .int .u16 0, .int .i64 0] 78))
  have HLN := hid (bytes_num s)
  have HX := hid (pcR_bad hm (.inl (data_nil h0)))
  have e0 := empty_yes h0
  clear h0 hm
  generalize pcR false s.data.toList = pr at *
  clear hs
  go_enter Tryd.func54, Tryd.ntmps54
  go_wp2_with fail
  go_returns
  exact RPost.no 0 0 0 0 0 0 0 0 0 (by decide) HX.out ((Below.refl _ _).alloc (Nat.le_refl _) _)
set_option maxHeartbeats 8000000 in
theorem pread_false_b (s : ByteArray) (w : World) (hs : s.size ≤ 100000) (hm : ¬ (false = true ∧ 1 < (splitR 46 s.data.toList).length)) (h4 : 4 < s.size) : Calls Tryd.prog 54 #[.string s, .bool false] w fun e w' => RPost (pcR false s.data.toList) w e w' := by
  have HS := hid hs
  have HZ := hid (zero9_world w)
  have HB0 := hid ((Below.refl w.heap.size w).alloc (Nat.le_refl _) (.cells #[.int .u16 0, .int .u16 0, .int .u16 0, .int .u16 0, .int .u16 0, .int .u16 0, .int .u16 0, .int .u16 0, .int .i64 0] 78))
  have HLN := hid (bytes_num s)
  have HX := hid (pcR_bad hm (.inr (.inl (by rw [bytes_num]; exact h4))))
  obtain ⟨e0, e1⟩ := empty_no (s := s) (by omega)
  have s1 : (4 : Int) < (s.size : Int) := by omega
  clear h4 hm
  generalize pcR false s.data.toList = pr at *
  clear hs
  go_enter Tryd.func54, Tryd.ntmps54
  go_wp2_with fail
  go_returns
  exact RPost.no 0 0 0 0 0 0 0 0 0 (by decide) HX.out ((Below.refl _ _).alloc (Nat.le_refl _) _)
set_option maxHeartbeats 8000000 in
theorem pread_false_c (s : ByteArray) (w : World) (hs : s.size ≤ 100000) (hm : ¬ (false = true ∧ 1 < (splitR 46 s.data.toList).length)) (h0 : s.size ≠ 0) (h4 : ¬ 4 < s.size) (hd : digsR 16 s.data.toList = false) : Calls Tryd.prog 54 #[.string s, .bool false] w fun e w' => RPost (pcR false s.data.toList) w e w' := by
  have HS := hid hs
  have HZ := hid (zero9_world w)
  have HB0 := hid ((Below.refl w.heap.size w).alloc (Nat.le_refl _) (.cells #[.int .u16 0, .int .u16 0, .int .u16 0, .int .u16 0, .int .u16 0, .int .u16 0, .int .u16 0, .int .u16 0, .int .i64 0] 78))
  have HLN := hid (bytes_num s)
  obtain ⟨e0, e1⟩ := empty_no h0
  have s1 : ¬ (4 : Int) < (s.size : Int) := by omega
  have HN := hid (fun w => pnumber_calls s 16 w hs (by decide) (by decide))
  unfold NPost at HN
  have HX := hid (pcR_bad hm (.inr (.inr hd)))
  rw [numP_no hd] at HN
  clear h0 h4 hd hm
  generalize pcR false s.data.toList = pr at *
  clear hs
  go_enter Tryd.func54, Tryd.ntmps54
  go_wp2_with fail
  refine (HN.out _).mono ?_
  rintro e wz ⟨rfl, rfl⟩
  go_wp2_with fail
  go_returns
  exact RPost.no 0 0 0 0 0 0 0 0 1 (by decide) HX.out ((Below.refl _ _).alloc (Nat.le_refl _) _)
set_option maxHeartbeats 8000000 in
theorem pread_false_d (s : ByteArray) (w : World) (hs : s.size ≤ 100000) (hm : ¬ (false = true ∧ 1 < (splitR 46 s.data.toList).length)) (h0 : s.size ≠ 0) (h4 : ¬ 4 < s.size) (hd : digsR 16 s.data.toList = true) : Calls Tryd.prog 54 #[.string s, .bool false] w fun e w' => RPost (pcR false s.data.toList) w e w' := by
  have HS := hid hs
  have HZ := hid (zero9_world w)
  have HB0 := hid ((Below.refl w.heap.size w).alloc (Nat.le_refl _) (.cells #[.int .u16 0, .int .u16 0, .int .u16 0, .int .u16 0, .int .u16 0, .int .u16 0, .int .u16 0, .int .u16 0, .int .i64 0] 78))
  have HLN := hid (bytes_num s)
  obtain ⟨e0, e1⟩ := empty_no h0
  have s1 : ¬ (4 : Int) < (s.size : Int) := by omega
  have HN := hid (fun w => pnumber_calls s 16 w hs (by decide) (by decide))
  unfold NPost at HN
  have HX := hid (pcR_good hm (by rintro (h | h | h); exact data_ne h0 h; rw [bytes_num] at h; exact h4 h; rw [hd] at h; cases h))
  obtain ⟨hv, hlt⟩ := sat_hex hd (by rw [bytes_num]; exact h4)
  rw [numP_yes hd, hv] at HN
  generalize valX 16 s.data.toList = n at *
  have g2 : IntKind.wrap .u16 (n : Int) = (n : Int) := wrap16 n hlt
  clear h0 h4 hd hm hv hlt
  generalize pcR false s.data.toList = pr at *
  clear hs
  go_enter Tryd.func54, Tryd.ntmps54
  go_wp2_with fail
  refine (HN.out _).mono ?_
  rintro e wz ⟨rfl, rfl⟩
  go_wp2_with fail
  go_returns
  exact RPost.yes n 0 0 0 0 0 0 0 1 HX.out rfl (by decide) rfl ((Below.refl _ _).alloc (Nat.le_refl _) _)
set_option maxHeartbeats 8000000 in
theorem pread_true_a (s : ByteArray) (w : World) (hs : s.size ≤ 100000) (hm : ¬ (true = true ∧ 1 < (splitR 46 s.data.toList).length)) (h0 : s.size = 0) : Calls Tryd.prog 54 #[.string s, .bool true] w fun e w' => RPost (pcR true s.data.toList) w e w' := by
  have HS := hid hs
  have HZ := hid (zero9_world w)
  have HB0 := hid ((Below.refl w.heap.size w).alloc (Nat.le_refl _) (.cells #[.int .u16 0, .int .u16 0, .int .u16 0, .int .u16 0, .int .u16 0, .int .u16 0, .int .u16 0, .int .u16 0, .int .i64 0] 78))
  have HLN := hid (bytes_num s)
  have HCo := hid (fun w => pcont_calls s w)
  rw [decide_eq_false (fun h => hm ⟨rfl, h⟩)] at HCo
  have HX := hid (pcR_bad hm (.inl (data_nil h0)))
  have e0 := empty_yes h0
  clear h0 hm
  generalize pcR true s.data.toList = pr at *
  clear hs
  go_enter Tryd.func54, Tryd.ntmps54
  go_wp2_with fail
  refine (HCo.out _).mono ?_
  rintro e wz ⟨rfl, rfl⟩
  go_wp2_with fail
  go_returns
  exact RPost.no 0 0 0 0 0 0 0 0 0 (by decide) HX.out ((Below.refl _ _).alloc (Nat.le_refl _) _)
set_option maxHeartbeats 8000000 in
theorem pread_true_b (s : ByteArray) (w : World) (hs : s.size ≤ 100000) (hm : ¬ (true = true ∧ 1 < (splitR 46 s.data.toList).length)) (h4 : 4 < s.size) : Calls Tryd.prog 54 #[.string s, .bool true] w fun e w' => RPost (pcR true s.data.toList) w e w' := by
  have HS := hid hs
  have HZ := hid (zero9_world w)
  have HB0 := hid ((Below.refl w.heap.size w).alloc (Nat.le_refl _) (.cells #[.int .u16 0, .int .u16 0, .int .u16 0, .int .u16 0, .int .u16 0, .int .u16 0, .int .u16 0, .int .u16 0, .int .i64 0] 78))
  have HLN := hid (bytes_num s)
  have HCo := hid (fun w => pcont_calls s w)
  rw [decide_eq_false (fun h => hm ⟨rfl, h⟩)] at HCo
  have HX := hid (pcR_bad hm (.inr (.inl (by rw [bytes_num]; exact h4))))
  obtain ⟨e0, e1⟩ := empty_no (s := s) (by omega)
  have s1 : (4 : Int) < (s.size : Int) := by omega
  clear h4 hm
  generalize pcR true s.data.toList = pr at *
  clear hs
  go_enter Tryd.func54, Tryd.ntmps54
  go_wp2_with fail
  refine (HCo.out _).mono ?_
  rintro e wz ⟨rfl, rfl⟩
  go_wp2_with fail
  go_returns
  exact RPost.no 0 0 0 0 0 0 0 0 0 (by decide) HX.out ((Below.refl _ _).alloc (Nat.le_refl _) _)
set_option maxHeartbeats 8000000 in
theorem pread_true_c (s : ByteArray) (w : World) (hs : s.size ≤ 100000) (hm : ¬ (true = true ∧ 1 < (splitR 46 s.data.toList).length)) (h0 : s.size ≠ 0) (h4 : ¬ 4 < s.size) (hd : digsR 16 s.data.toList = false) : Calls Tryd.prog 54 #[.string s, .bool true] w fun e w' => RPost (pcR true s.data.toList) w e w' := by
  have HS := hid hs
  have HZ := hid (zero9_world w)
  have HB0 := hid ((Below.refl w.heap.size w).alloc (Nat.le_refl _) (.cells #[.int .u16 0, .int .u16 0, .int .u16 0, .int .u16 0, .int .u16 0, .int .u16 0, .int .u16 0, .int .u16 0, .int .i64 0] 78))
  have HLN := hid (bytes_num s)
  have HCo := hid (fun w => pcont_calls s w)
  rw [decide_eq_false (fun h => hm ⟨rfl, h⟩)] at HCo
  obtain ⟨e0, e1⟩ := empty_no h0
  have s1 : ¬ (4 : Int) < (s.size : Int) := by omega
  have HN := hid (fun w => pnumber_calls s 16 w hs (by decide) (by decide))
  unfold NPost at HN
  have HX := hid (pcR_bad hm (.inr (.inr hd)))
  rw [numP_no hd] at HN
  clear h0 h4 hd hm
  generalize pcR true s.data.toList = pr at *
  clear hs
  go_enter Tryd.func54, Tryd.ntmps54
  go_wp2_with fail
  refine (HCo.out _).mono ?_
  rintro e wz ⟨rfl, rfl⟩
  go_wp2_with fail
  refine (HN.out _).mono ?_
  rintro e wz ⟨rfl, rfl⟩
  go_wp2_with fail
  go_returns
  exact RPost.no 0 0 0 0 0 0 0 0 1 (by decide) HX.out ((Below.refl _ _).alloc (Nat.le_refl _) _)
set_option maxHeartbeats 8000000 in
theorem pread_true_d (s : ByteArray) (w : World) (hs : s.size ≤ 100000) (hm : ¬ (true = true ∧ 1 < (splitR 46 s.data.toList).length)) (h0 : s.size ≠ 0) (h4 : ¬ 4 < s.size) (hd : digsR 16 s.data.toList = true) : Calls Tryd.prog 54 #[.string s, .bool true] w fun e w' => RPost (pcR true s.data.toList) w e w' := by
  have HS := hid hs
  have HZ := hid (zero9_world w)
  have HB0 := hid ((Below.refl w.heap.size w).alloc (Nat.le_refl _) (.cells #[.int .u16 0, .int .u16 0, .int .u16 0, .int .u16 0, .int .u16 0, .int .u16 0, .int .u16 0, .int .u16 0, .int .i64 0] 78))
  have HLN := hid (bytes_num s)
  have HCo := hid (fun w => pcont_calls s w)
  rw [decide_eq_false (fun h => hm ⟨rfl, h⟩)] at HCo
  obtain ⟨e0, e1⟩ := empty_no h0
  have s1 : ¬ (4 : Int) < (s.size : Int) := by omega
  have HN := hid (fun w => pnumber_calls s 16 w hs (by decide) (by decide))
  unfold NPost at HN
  have HX := hid (pcR_good hm (by rintro (h | h | h); exact data_ne h0 h; rw [bytes_num] at h; exact h4 h; rw [hd] at h; cases h))
  obtain ⟨hv, hlt⟩ := sat_hex hd (by rw [bytes_num]; exact h4)
  rw [numP_yes hd, hv] at HN
  generalize valX 16 s.data.toList = n at *
  have g2 : IntKind.wrap .u16 (n : Int) = (n : Int) := wrap16 n hlt
  clear h0 h4 hd hm hv hlt
  generalize pcR true s.data.toList = pr at *
  clear hs
  go_enter Tryd.func54, Tryd.ntmps54
  go_wp2_with fail
  refine (HCo.out _).mono ?_
  rintro e wz ⟨rfl, rfl⟩
  go_wp2_with fail
  refine (HN.out _).mono ?_
  rintro e wz ⟨rfl, rfl⟩
  go_wp2_with fail
  go_returns
  exact RPost.yes n 0 0 0 0 0 0 0 1 HX.out rfl (by decide) rfl ((Below.refl _ _).alloc (Nat.le_refl _) _)
theorem pread_calls (dec : Bool) (s : ByteArray) (w : World) (hs : s.size ≤ 100000) : Calls Tryd.prog 54 #[.string s, .bool dec] w fun e w' => RPost (pcR dec s.data.toList) w e w' := by
  by_cases hm : dec = true ∧ 1 < (splitR 46 s.data.toList).length
  · obtain ⟨rfl, hm⟩ := hm
    exact pread_four s w hs hm
  · by_cases h0 : s.size = 0
    · cases dec with
      | false => exact pread_false_a s w hs hm h0
      | true => exact pread_true_a s w hs hm h0
    by_cases h4 : 4 < s.size
    · cases dec with
      | false => exact pread_false_b s w hs hm h4
      | true => exact pread_true_b s w hs hm h4
    cases hd : digsR 16 s.data.toList with
    | false =>
      cases dec with
      | false => exact pread_false_c s w hs hm h0 h4 hd
      | true => exact pread_true_c s w hs hm h0 h4 hd
    | true =>
      cases dec with
      | false => exact pread_false_d s w hs hm h0 h4 hd
      | true => exact pread_true_d s w hs hm h0 h4 hd
end Go.Proofs.YtghhdccnocpobaaDoor
