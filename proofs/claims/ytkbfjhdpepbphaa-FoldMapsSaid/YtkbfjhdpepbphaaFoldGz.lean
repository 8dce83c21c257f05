/- The document's small, whole. -/
import Derived.Test.YtkbfjhdpepbphaaFoldGa
import Derived.Test.YtkbfjhdpepbphaaFoldGb
import Derived.Test.YtkbfjhdpepbphaaFoldGc
import Derived.Test.YtkbfjhdpepbphaaFoldGd
namespace Go.Proofs.Ytkbfjhdpepbphaa
open Go.RowKit
set_option linter.unusedVariables false
theorem tmod_pos {c : Int} (h : 0 ≤ c) : c.tmod 2 = 0 ∨ c.tmod 2 = 1 := by rw [Int.tmod_eq_emod_of_nonneg h]; omega
theorem tmod_neg {c : Int} (h : c ≤ -1) : c.tmod 2 = 0 ∨ c.tmod 2 = -1 := by
  have e : c.tmod 2 = -((-c).tmod 2) := by rw [Int.neg_tmod, Int.neg_neg]
  have := tmod_pos (c := -c) (by omega)
  omega
theorem small_calls (c : Int) (w : World) : Calls Try.prog 21 #[.int .i64 c] w fun e w' => e = .returned (.int .i64 (smallR c)) ∧ w' = w := by
  have hc : c ≤ -1 ∨ (0 ≤ c ∧ c ≤ 64) ∨ (65 ≤ c ∧ c ≤ 90) ∨ (91 ≤ c ∧ c ≤ 191) ∨ (192 ≤ c ∧ c ≤ 214) ∨ c = 215 ∨ (216 ≤ c ∧ c ≤ 222) ∨ (223 ≤ c ∧ c ≤ 255) ∨ (256 ≤ c ∧ c ≤ 303) ∨ c = 304 ∨ (305 ≤ c ∧ c ≤ 311) ∨ c = 312 ∨ (313 ≤ c ∧ c ≤ 328) ∨ c = 329 ∨ (330 ≤ c ∧ c ≤ 375) ∨ c = 376 ∨ (377 ≤ c ∧ c ≤ 382) ∨ c = 383 ∨ (384 ≤ c ∧ c ≤ 912) ∨ (913 ≤ c ∧ c ≤ 929) ∨ c = 930 ∨ (931 ≤ c ∧ c ≤ 937) ∨ (938 ≤ c ∧ c ≤ 1023) ∨ (1024 ≤ c ∧ c ≤ 1039) ∨ (1040 ≤ c ∧ c ≤ 1071) ∨ 1072 ≤ c := by omega
  rcases hc with h | ⟨h1, h2⟩ | ⟨h1, h2⟩ | ⟨h1, h2⟩ | ⟨h1, h2⟩ | rfl | ⟨h1, h2⟩ | ⟨h1, h2⟩ | ⟨h1, h2⟩ | rfl | ⟨h1, h2⟩ | rfl | ⟨h1, h2⟩ | rfl | ⟨h1, h2⟩ | rfl | ⟨h1, h2⟩ | rfl | ⟨h1, h2⟩ | ⟨h1, h2⟩ | rfl | ⟨h1, h2⟩ | ⟨h1, h2⟩ | ⟨h1, h2⟩ | ⟨h1, h2⟩ | h
  · rcases tmod_neg h with hp | hp
    · exact small_p0 c w h hp
    · exact small_p1 c w h hp
  · rcases tmod_pos (c := c) (by omega) with hp | hp
    · exact small_p2 c w h1 h2 hp
    · exact small_p3 c w h1 h2 hp
  · exact small_p4 c w h1 h2
  · rcases tmod_pos (c := c) (by omega) with hp | hp
    · exact small_p5 c w h1 h2 hp
    · exact small_p6 c w h1 h2 hp
  · exact small_p7 c w h1 h2
  · exact small_p8 w 
  · exact small_p9 c w h1 h2
  · rcases tmod_pos (c := c) (by omega) with hp | hp
    · exact small_p10 c w h1 h2 hp
    · exact small_p11 c w h1 h2 hp
  · rcases tmod_pos (c := c) (by omega) with hp | hp
    · exact small_p12 c w h1 h2 hp
    · exact small_p13 c w h1 h2 hp
  · exact small_p14 w 
  · rcases tmod_pos (c := c) (by omega) with hp | hp
    · exact small_p15 c w h1 h2 hp
    · exact small_p16 c w h1 h2 hp
  · exact small_p17 w 
  · rcases tmod_pos (c := c) (by omega) with hp | hp
    · exact small_p18 c w h1 h2 hp
    · exact small_p19 c w h1 h2 hp
  · exact small_p20 w 
  · rcases tmod_pos (c := c) (by omega) with hp | hp
    · exact small_p21 c w h1 h2 hp
    · exact small_p22 c w h1 h2 hp
  · exact small_p23 w 
  · rcases tmod_pos (c := c) (by omega) with hp | hp
    · exact small_p24 c w h1 h2 hp
    · exact small_p25 c w h1 h2 hp
  · exact small_p26 w 
  · rcases tmod_pos (c := c) (by omega) with hp | hp
    · exact small_p27 c w h1 h2 hp
    · exact small_p28 c w h1 h2 hp
  · exact small_p29 c w h1 h2
  · exact small_p30 w 
  · exact small_p31 c w h1 h2
  · rcases tmod_pos (c := c) (by omega) with hp | hp
    · exact small_p32 c w h1 h2 hp
    · exact small_p33 c w h1 h2 hp
  · exact small_p34 c w h1 h2
  · exact small_p35 c w h1 h2
  · rcases tmod_pos (c := c) (by omega) with hp | hp
    · exact small_p36 c w h hp
    · exact small_p37 c w h hp
end Go.Proofs.Ytkbfjhdpepbphaa
