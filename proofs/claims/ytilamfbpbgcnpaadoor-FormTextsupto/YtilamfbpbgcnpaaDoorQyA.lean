/- What a piece of a query tells: plain, pair. -/
import Derived.Test.YtilamfbpbgcnpaaDoorQyR
import Derived.Test.YtilamfbpbgcnpaaDoorPctF
import Derived.Test.YtilamfbpbgcnpaaDoorUtfD
import Derived.Test.YtilamfbpbgcnpaaDoorUtfE
import Derived.Handy
namespace Go.Proofs.YtilamfbpbgcnpaaDoor
open Go.RowKit Go.Shelf
set_option linter.unusedVariables false
set_option maxRecDepth 20000
set_option linter.unusedSimpArgs false
/-- What a form wrote. -/
def plainR (x : List UInt8) : List UInt8 := textL (lossyL (unR (Lib.replaceAll x [43] [32])))
abbrev Pr := List UInt8 × List UInt8
def pairR (p : List UInt8) : Pr := (plainR (Lib.cut p [61]).1, plainR (Lib.cut p [61]).2.1)
theorem MaxL.below {w w' : World} (T : MaxL w) (hb : Below w.heap.size w w') : MaxL w' := by
  obtain ⟨m, hm⟩ := T
  exact ⟨m, (hb.cell (p := ⟨3, 0, none⟩) (World.block_lt_of_cell? w _ hm)).trans hm⟩
theorem MaxL.drewN {w : World} (T : MaxL w) (n : Nat) : MaxL (w.drewN n) := T
theorem qplain_calls (s : ByteArray) (w : World) (hs : s.size ≤ 40000) (T : MaxL w) :
    Calls Tryd.prog 33 #[.string s] w fun e w' => e = .returned (.string (strOf (plainR s.data.toList))) ∧ Below w.heap.size w w' := by
  have H1 := hid (replAll_calls s ⟨#[43]⟩ ⟨#[32]⟩ w (by omega) T (by decide) (by decide))
  have hl := replAll_len s.data.toList [43] [32] (by decide) (by decide)
  rw [bytes_num] at hl
  have hu := unR_len _ _ (Nat.le_refl (Lib.replaceAll s.data.toList [43] [32]).length)
  have H2 := hid (fun w1 => decode_callsPc (strOf (Lib.replaceAll s.data.toList [43] [32])) w1 (by show (Lib.replaceAll s.data.toList [43] [32]).length ≤ _; omega))
  have H3 := hid (fun w1 v hv => lossy_calls v (unR (Lib.replaceAll s.data.toList [43] [32])) w1 hv (by omega))
  have hy := (lossy_all _ (unR (Lib.replaceAll s.data.toList [43] [32])) (Nat.le_refl _)).2
  have H4 := hid (fun w1 v hv => text_calls v (lossyL (unR (Lib.replaceAll s.data.toList [43] [32]))) w1 hv (by omega))
  clear hs T hl hu hy
  go_enter Tryd.func33, Tryd.ntmps33
  go_wp2_with fail
  refine H1.out.mono ?_
  rintro e w1 ⟨rfl, hb1⟩
  have HB := hid hb1
  clear hb1
  go_wp2_with fail
  refine (H2.out w1).mono ?_
  rintro e w2 ⟨⟨v, rfl, hv⟩, hb2⟩
  have HV := hid hv
  have HB2 := hid (below_trans HB.out hb2)
  clear hv hb2
  go_wp2_with fail
  refine (H3.out w2 v HV.out).mono ?_
  rintro e w3 ⟨⟨v2, rfl, hv⟩, hb2⟩
  have HV2 := hid hv.row
  have HB3 := hid (below_trans HB2.out hb2)
  clear hv hb2
  go_wp2_with fail
  refine (H4.out w3 v2 HV2.out).mono ?_
  rintro e w4 ⟨rfl, hb2⟩
  have HB4 := hid (below_trans HB3.out hb2)
  clear hb2
  go_wp2_with fail
  go_ret
  exact ⟨rfl, HB4.out⟩
theorem cut_len (s sep : List UInt8) : (Lib.cut s sep).1.length ≤ s.length ∧ (Lib.cut s sep).2.1.length ≤ s.length := by
  unfold Lib.cut
  split <;> simp <;> omega
/-- A pair as a value. -/
def prV (p : Pr) : Value := .agg #[.string (strOf p.1), .string (strOf p.2)]
set_option maxHeartbeats 1000000 in
theorem qpair_calls (s : ByteArray) (w : World) (hs : s.size ≤ 40000) (T : MaxL w) :
    Calls Tryd.prog 19 #[.string s] w fun e w' => e = .returned (prV (pairR s.data.toList)) ∧ Below w.heap.size w w' := by
  have HT := hid T
  have hl := cut_len s.data.toList [61]
  rw [bytes_num] at hl
  have H1 := hid (fun w1 t => pcutc_calls s ⟨#[61]⟩ w1 (by omega) t)
  have H2 := hid (fun w1 t => qplain_calls (strOf (Lib.cut s.data.toList [61]).1) w1 (by show (Lib.cut s.data.toList [61]).1.length ≤ _; omega) t)
  have H3 := hid (fun w1 t => qplain_calls (strOf (Lib.cut s.data.toList [61]).2.1) w1 (by show (Lib.cut s.data.toList [61]).2.1.length ≤ _; omega) t)
  have HQ := hid (show (plainR (Lib.cut s.data.toList [61]).1, plainR (Lib.cut s.data.toList [61]).2.1) = pairR s.data.toList from rfl)
  have HS := hid hl
  clear hs T hl
  go_enter Tryd.func19, Tryd.ntmps19
  go_wp2_with fail
  have HB0 := hid ((Below.refl w.heap.size w).alloc (Nat.le_refl _) (.cells #[.string ⟨#[]⟩, .string ⟨#[]⟩] 36))
  have HC : Hid ((w.alloc (.cells #[.string ⟨#[]⟩, .string ⟨#[]⟩] 36)).heap[w.heap.size]? = some (.cells #[.string ⟨#[]⟩, .string ⟨#[]⟩] 36)) := hid (by show (w.heap.push _)[w.heap.size]? = _; simp)
  refine (H1.out _ (HT.out.below HB0.out)).mono ?_
  rintro e w1 ⟨rfl, n, rfl⟩
  have HC1 : Hid (((w.alloc (.cells #[.string ⟨#[]⟩, .string ⟨#[]⟩] 36)).drewN n).heap[w.heap.size]? = some (.cells #[.string ⟨#[]⟩, .string ⟨#[]⟩] 36)) := HC
  have HB1 : Hid (Below w.heap.size w ((w.alloc (.cells #[.string ⟨#[]⟩, .string ⟨#[]⟩] 36)).drewN n)) := hid (below_drewN HB0.out n)
  have HZ : Hid (w.heap.size < ((w.alloc (.cells #[.string ⟨#[]⟩, .string ⟨#[]⟩] 36)).drewN n).heap.size) := hid (by simp)
  clear HB0 HC
  generalize (w.alloc (.cells #[.string ⟨#[]⟩, .string ⟨#[]⟩] 36)).drewN n = w1 at *
  go_wp2_with fail
  refine (H2.out _ (HT.out.below HB1.out)).mono ?_
  rintro e w2 ⟨rfl, hb2⟩
  have HC2 := hid ((hb2.block _ HZ.out).trans HC1.out)
  have HB2 := hid (HB1.out.trans (hb2.mono HB1.out.size))
  have HZ2 := hid (Nat.lt_of_lt_of_le HZ.out hb2.size)
  clear hb2 HC1 HB1 HZ
  go_wp2_with fail
  refine (H3.out _ (HT.out.below HB2.out)).mono ?_
  rintro e w3 ⟨rfl, hb2⟩
  have HC3 := hid ((hb2.block _ HZ2.out).trans HC2.out)
  have HB3 := hid (HB2.out.trans (hb2.mono HB2.out.size))
  clear hb2 HC2 HB2 HZ2
  have c0 : w3.cell? ⟨w.heap.size, 0, none⟩ = some (.string ⟨#[]⟩) := by simp [World.cell?, HC3.out]
  have c1 : w3.cell? ⟨w.heap.size, 1, none⟩ = some (.string ⟨#[]⟩) := by simp [World.cell?, HC3.out]
  have f0 : w3.frozen? ⟨w.heap.size, 0, none⟩ = false := by simp [World.frozen?, HC3.out]
  have f1 : w3.frozen? ⟨w.heap.size, 1, none⟩ = false := by simp [World.frozen?, HC3.out]
  go_wp2_with fail
  rw [show (strOf (Lib.cut s.data.toList [61]).1).data.toList = (Lib.cut s.data.toList [61]).1 from rfl, show (strOf (Lib.cut s.data.toList [61]).2.1).data.toList = (Lib.cut s.data.toList [61]).2.1 from rfl]
  obtain ⟨W, hW⟩ : ∃ W, (w3.setCell ⟨w.heap.size, 0, none⟩ (.string (strOf (plainR (Lib.cut s.data.toList [61]).1)))).setCell ⟨w.heap.size, 1, none⟩ (.string (strOf (plainR (Lib.cut s.data.toList [61]).2.1))) = W := ⟨_, rfl⟩
  have k0 : W.cell? ⟨w.heap.size, 0, none⟩ = some (.string (strOf (plainR (Lib.cut s.data.toList [61]).1))) := by
    rw [← hW, World.cell?_setCell_other _ _ _ _ (fun e => by injection e with _ e2 _; cases e2)]
    exact World.cell?_setCell_same _ _ _ c0
  have k1 : W.cell? ⟨w.heap.size, 1, none⟩ = some (.string (strOf (plainR (Lib.cut s.data.toList [61]).2.1))) := by
    rw [← hW]
    exact World.cell?_setCell_same _ _ _ ((World.cell?_setCell_other _ _ _ _ (fun e => by injection e with _ e2 _; cases e2)).trans c1)
  rw [hW]
  refine bodyPost_ret (by simp [results, Tryd.f19, go_sem, k0, k1]; try rfl) rfl ⟨?_, ?_⟩
  · rw [← HQ.out]; rfl
  · rw [← hW]; exact (HB3.out.setCell (p := ⟨w.heap.size, 0, none⟩) (Nat.le_refl _) _).setCell (p := ⟨w.heap.size, 1, none⟩) (Nat.le_refl _) _
end Go.Proofs.YtilamfbpbgcnpaaDoor
