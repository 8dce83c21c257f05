/- first: what the chapter's examples fix. -/
import Derived.Test.YtfglanhbjmlclaaDoorPctF
import Derived.Lib.SlBytesConst
namespace Go.Proofs.YtfglanhbjmlclaaDoor
open Go.RowKit
set_option linter.unusedVariables false
set_option maxRecDepth 20000
theorem pf1 : pctR 3 [97, 32, 98, 39] = [97, 37, 50, 48, 98, 39] := by decide +kernel
theorem pf2 : unR [37, 52, 97, 37, 52] = [74, 37, 52] := by decide +kernel
theorem blit (w : World) (l : List UInt8) (fr : Nat × Nat) (h : l.length ≤ 1000) : BRow (w.alloc (.cells (l.map fb).toArray 5 fr)) (.slice (some ⟨w.heap.size, 0, none⟩) l.length l.length) l := Row.lit fb w l 5 fr h
theorem below_alloc (w : World) (o : Obj) : Below w.heap.size w (w.alloc o) := (Below.refl _ _).alloc (Nat.le_refl _) _
set_option maxHeartbeats 1000000 in
theorem pfirst_calls (w : World) (ht : Tab w) : Calls Tryd.prog 8 #[] w fun e w' => e = .returned (.bool true) ∧ Below w.heap.size w w' := by
  have hcv := fun (w : World) (C : Array Value) (n c : Nat) => Lib.run_convert_bytes_const (P := Tryd.prog) w 24 5 C n c Tryd.underlying24 Tryd.underlying5
  have HT := hid ht
  clear ht
  go_enter Tryd.func8, Tryd.ntmps8
  go_wp2_with fail
  refine (encode_calls 3 _ [97, 32, 98, 39] _ (HT.out.alloc _) (by exact blit _ [97, 32, 98, 39] (4, 5) (by decide)) (by decide)).mono ?_
  rintro e w1 ⟨rfl, hb1⟩
  rw [pf1]
  have HB1 := hid (((below_alloc w _).trans (hb1.mono (by simp))))
  have hs1 : (strOf [97, 37, 50, 48, 98, 39]).toList = [97, 37, 50, 48, 98, 39] := by decide +kernel
  clear hb1
  go_wp2_with fail
  refine (decode_calls ⟨#[37, 52, 97, 37, 52]⟩ _ (by decide)).mono ?_
  rintro e w2 ⟨⟨v, rfl, hv⟩, hb2⟩
  rw [show (⟨#[37, 52, 97, 37, 52]⟩ : ByteArray).data.toList = [37, 52, 97, 37, 52] from rfl, pf2] at hv
  have HB2 := hid (below_trans HB1.out hb2)
  have hr := run_string hv
  have hs2 : (strOf [74, 37, 52]).toList = [74, 37, 52] := by decide +kernel
  clear hb2 hv HB1
  go_wp2_with fail
  go_ret
  exact ⟨rfl, HB2.out⟩
end Go.Proofs.YtfglanhbjmlclaaDoor
