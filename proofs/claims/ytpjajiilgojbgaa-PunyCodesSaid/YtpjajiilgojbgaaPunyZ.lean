/- The walk of first: what the chapter's examples fix. -/
import Derived.Test.YtpjajiilgojbgaaPunyR
import Derived.Test.YtpjajiilgojbgaaUtfI
namespace Go.Proofs.Ytpjajiilgojbgaa
open Go.RowKit
set_option linter.unusedVariables false
theorem f1 : encR [98, 252, 99, 104, 101, 114] = (⟨#[98, 99, 104, 101, 114, 45, 107, 118, 97]⟩, 0) := by
  rw [encR_ok (by decide) (by decide +kernel)]
  have : enc (nats [98, 252, 99, 104, 101, 114]) = [98, 99, 104, 101, 114, 45, 107, 118, 97] := by decide +kernel
  rw [this]; rfl
theorem f2 : decR ⟨#[116, 100, 97]⟩ = ([252], 0) := by
  refine decR_some (by decide) ?_
  have hl : Lib.lastIndexByte ⟨#[116, 100, 97]⟩ 45 = -1 := last_none [116, 100, 97] (by decide)
  unfold dec cutOf
  rw [hl, if_pos (by decide)]
  decide +kernel
theorem litI (w : World) (l : List Int) (h : l.length ≤ 1000) : IRow (w.alloc (.cells (l.map fi).toArray 3)) (.slice (some ⟨w.heap.size, 0, none⟩) l.length l.length) l := Row.lit fi w l 3 (0, 0) h
theorem below_alloc (w : World) (o : Obj) : Below w.heap.size w (w.alloc o) := (Below.refl _ _).alloc (Nat.le_refl _) _
theorem row_len {w : World} {v : Value} {l : List Int} (h : IRow w v l) : ∃ a cap, v = .slice a l.length cap := by
  obtain ⟨a', cap', he, h1, h2, h3⟩ := h
  exact ⟨a', cap', he⟩
set_option maxHeartbeats 1000000 in
theorem first_calls (w : World) : Calls Try.prog 7 #[] w fun e w' => e = .returned (.bool true) ∧ Below w.heap.size w w' := by
  go_enter Try.func7, Try.ntmps7
  go_wp2_with fail
  refine (encode_calls _ [98, 252, 99, 104, 101, 114] _ (litI w [98, 252, 99, 104, 101, 114] (by decide))).mono ?_
  rintro e w1 ⟨rfl, hb⟩
  rw [f1]
  have HB1 := hid (below_trans (below_alloc w _) hb)
  clear hb
  go_wp2_with fail
  refine (decode_calls _ _ (by decide)).mono ?_
  rintro e w2 ⟨⟨v, rfl, hv⟩, hb⟩
  rw [f2] at hv ⊢
  have HB2 := hid (below_trans HB1.out hb)
  have HX := hid (hv.below (below_alloc w2 (.cells #[.int .i64 252] 3)))
  clear hb HB1 hv
  go_wp2_with fail
  refine (ints_calls _ _ [252] [252] _ HX.out (litI w2 [252] (by decide))).mono ?_
  rintro e w4 ⟨rfl, hb⟩
  rw [beq_self_eq_true]
  have HB4 := hid (below_trans HB2.out (below_trans (below_alloc w2 _) hb))
  clear hb HB2 HX
  go_wp2_with fail
  go_ret
  exact ⟨rfl, HB4.out⟩
end Go.Proofs.Ytpjajiilgojbgaa
