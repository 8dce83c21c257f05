/- The program's longestRun and printPieces. -/
import Derived.Test.YtghhdccnocpobaaDoorIpWi
import Derived.Test.YtghhdccnocpobaaDoorIpM
import Derived.Test.YtghhdccnocpobaaDoorIpK
namespace Go.Proofs.YtghhdccnocpobaaDoor
open Go.RowKit
set_option linter.unusedVariables false
set_option maxRecDepth 20000
set_option linter.unusedSimpArgs false
/-- The first longest run of 0, from a place on: the place of the best so far, its length, how many 0 stand just ahead. -/
def lrun : Nat → List Nat → Nat → Nat → Nat → Nat × Nat
  | i, [], a, s, z => (a, s)
  | i, x :: r, a, s, z => if x = 0 then (if s < z + 1 then lrun (i + 1) r (i + 1 - (z + 1)) (z + 1) (z + 1) else lrun (i + 1) r a s (z + 1)) else lrun (i + 1) r a s 0
def bit (x : Nat) : Nat := if x = 0 then 0 else 1
theorem lrun_bit : ∀ (p : List Nat) (i a s z : Nat), lrun i (p.map bit) a s z = lrun i p a s z
  | [], _, _, _, _ => rfl
  | x :: r, i, a, s, z => by
    show (if bit x = 0 then (if s < z + 1 then lrun (i + 1) (r.map bit) (i + 1 - (z + 1)) (z + 1) (z + 1) else lrun (i + 1) (r.map bit) a s (z + 1)) else lrun (i + 1) (r.map bit) a s 0) = (if x = 0 then (if s < z + 1 then lrun (i + 1) r (i + 1 - (z + 1)) (z + 1) (z + 1) else lrun (i + 1) r a s (z + 1)) else lrun (i + 1) r a s 0)
    rw [lrun_bit r, lrun_bit r, lrun_bit r]
    by_cases h : x = 0
    · rw [if_pos h, if_pos (by rw [h]; rfl)]
    · rw [if_neg h, if_neg (by unfold bit; rw [if_neg h]; decide)]
theorem runAt_bit (p : List Nat) (i : Nat) : runAt (p.map bit) i = runAt p i := by
  unfold runAt
  rw [← List.map_drop, List.takeWhile_map, List.length_map]
  congr 2
  funext x
  by_cases h : x = 0
  · rw [h]; rfl
  · show (bit x == 0) = (x == 0)
    rw [show bit x = 1 by unfold bit; rw [if_neg h], beq_eq_false_iff_ne.2 h]
    rfl
theorem bestG_bit (p : List Nat) : ∀ i, bestG (p.map bit) i = bestG p i
  | 0 => rfl
  | i + 1 => by
    show (if (bestG (p.map bit) i).2 < runAt (p.map bit) i then (i, runAt (p.map bit) i) else bestG (p.map bit) i) = (if (bestG p i).2 < runAt p i then (i, runAt p i) else bestG p i)
    rw [bestG_bit p i, runAt_bit]
/-- What the run found has to do with the document's. -/
def lrunFits (p : List Nat) : Bool := if (lrun 0 p 0 0 0).2 < 2 then decide ((bestR p).1 = 8) else decide (bestR p = lrun 0 p 0 0 0) && decide ((lrun 0 p 0 0 0).1 + (lrun 0 p 0 0 0).2 ≤ 8)
theorem lrunFits_bit (p : List Nat) : lrunFits (p.map bit) = lrunFits p := by
  unfold lrunFits bestR
  rw [lrun_bit, bestG_bit]
theorem lrunFits_all : ∀ b0 b1 b2 b3 b4 b5 b6 b7 : Fin 2, lrunFits [b0.val, b1.val, b2.val, b3.val, b4.val, b5.val, b6.val, b7.val] = true := by decide +kernel
theorem bit_lt (x : Nat) : bit x < 2 := by unfold bit; split <;> omega
theorem lrun_fits (p0 p1 p2 p3 p4 p5 p6 p7 : Nat) : lrunFits [p0, p1, p2, p3, p4, p5, p6, p7] = true := by
  rw [← lrunFits_bit]
  exact lrunFits_all ⟨bit p0, bit_lt _⟩ ⟨bit p1, bit_lt _⟩ ⟨bit p2, bit_lt _⟩ ⟨bit p3, bit_lt _⟩ ⟨bit p4, bit_lt _⟩ ⟨bit p5, bit_lt _⟩ ⟨bit p6, bit_lt _⟩ ⟨bit p7, bit_lt _⟩
/-- The run under way. -/
def LAt (p : List Nat) (k a s z : Nat) : Prop := lrun k (p.drop k) a s z = lrun 0 p 0 0 0 ∧ a ≤ k ∧ s ≤ k ∧ z ≤ k
theorem LAt.start (p : List Nat) : LAt p 0 0 0 0 := ⟨by rw [List.drop_zero], Nat.le_refl _, Nat.le_refl _, Nat.le_refl _⟩
theorem LAt.other {p : List Nat} {k a s z : Nat} (h : LAt p k a s z) (hk : k < p.length) (hx : ¬ p[k] = 0) : LAt p (k + 1) a s 0 := by
  refine ⟨?_, by have := h.2.1; omega, by have := h.2.2.1; omega, by omega⟩
  rw [← h.1, List.drop_eq_getElem_cons hk]
  show _ = if p[k] = 0 then _ else _
  rw [if_neg hx]
theorem LAt.less {p : List Nat} {k a s z : Nat} (h : LAt p k a s z) (hk : k < p.length) (hx : p[k] = 0) (hs : ¬ s < z + 1) : LAt p (k + 1) a s (z + 1) := by
  refine ⟨?_, by have := h.2.1; omega, by have := h.2.2.1; omega, by have := h.2.2.2; omega⟩
  rw [← h.1, List.drop_eq_getElem_cons hk]
  show _ = if p[k] = 0 then (if s < z + 1 then _ else _) else _
  rw [if_pos hx, if_neg hs]
theorem LAt.more {p : List Nat} {k a s z : Nat} (h : LAt p k a s z) (hk : k < p.length) (hx : p[k] = 0) (hs : s < z + 1) : LAt p (k + 1) (k - z) (z + 1) (z + 1) := by
  refine ⟨?_, by omega, by have := h.2.2.2; omega, by have := h.2.2.2; omega⟩
  rw [← h.1, List.drop_eq_getElem_cons hk]
  show _ = if p[k] = 0 then (if s < z + 1 then lrun (k + 1) _ (k + 1 - (z + 1)) (z + 1) (z + 1) else _) else _
  rw [if_pos hx, if_pos hs, show k + 1 - (z + 1) = k - z by omega]
theorem LAt.done {p : List Nat} {k a s z : Nat} (h : LAt p k a s z) (hk : ¬ k < p.length) : lrun 0 p 0 0 0 = (a, s) := by
  rw [← h.1, List.drop_of_length_le (by omega)]
  rfl
theorem agg_at (p0 p1 p2 p3 p4 p5 p6 p7 k : Nat) (hk : k < ([p0, p1, p2, p3, p4, p5, p6, p7] : List Nat).length) (w : World) : (Instr.index 28 (.agg #[.int .u16 (p0 : Int), .int .u16 (p1 : Int), .int .u16 (p2 : Int), .int .u16 (p3 : Int), .int .u16 (p4 : Int), .int .u16 (p5 : Int), .int .u16 (p6 : Int), .int .u16 (p7 : Int)]) (.int .i64 (k : Int))).run Tryd.prog w = .ok (.int .u16 ((([p0, p1, p2, p3, p4, p5, p6, p7] : List Nat)[k]'hk : Nat) : Int)) w := by
  obtain rfl | rfl | rfl | rfl | rfl | rfl | rfl | rfl : k = 0 ∨ k = 1 ∨ k = 2 ∨ k = 3 ∨ k = 4 ∨ k = 5 ∨ k = 6 ∨ k = 7 := by simp only [List.length_cons, List.length_nil] at hk; omega
  all_goals rfl
set_option maxHeartbeats 4000000 in
theorem plrun_calls (p0 p1 p2 p3 p4 p5 p6 p7 : Nat) (w : World) (hx : ∀ x ∈ [p0, p1, p2, p3, p4, p5, p6, p7], x < 65536) :
    Calls Tryd.prog 36 #[agg8 p0 p1 p2 p3 p4 p5 p6 p7] w fun e w' => e = .returned (.tuple #[.int .i64 ((lrun 0 [p0, p1, p2, p3, p4, p5, p6, p7] 0 0 0).1 : Int), .int .i64 ((lrun 0 [p0, p1, p2, p3, p4, p5, p6, p7] 0 0 0).2 : Int)]) ∧ Below w.heap.size w w' := by
  have HB := hid ((Below.refl w.heap.size w).alloc (Nat.le_refl _) (.cells #[.int .u16 (p0 : Int), .int .u16 (p1 : Int), .int .u16 (p2 : Int), .int .u16 (p3 : Int), .int .u16 (p4 : Int), .int .u16 (p5 : Int), .int .u16 (p6 : Int), .int .u16 (p7 : Int)] 28))
  have HAt := hid (fun k hk w => agg_at p0 p1 p2 p3 p4 p5 p6 p7 k hk w)
  have HS := hid (LAt.start [p0, p1, p2, p3, p4, p5, p6, p7])
  have HX := hid hx
  have HLen : Hid ([p0, p1, p2, p3, p4, p5, p6, p7].length = 8) := rfl
  clear hx
  unfold agg8
  generalize [p0, p1, p2, p3, p4, p5, p6, p7] = p at *
  go_enter Tryd.func36, Tryd.ntmps36
  go_wp2_with fail
  go_loop [2, 3, 4, 8] (fun va vs vz vi => ∃ (a s z k : Nat), va = .int .i64 (a : Int) ∧ vs = .int .i64 (s : Int) ∧ vz = .int .i64 (z : Int) ∧ vi = .int .i64 (k : Int) ∧ k ≤ 8 ∧ LAt p k a s z) (fun _ _ _ vi => 8 - (intOf vi).toNat)
  case atStart => exact ⟨0, 0, 0, 0, rfl, rfl, rfl, rfl, by omega, HS.out⟩
  case round =>
    obtain ⟨a, s, z, k, rfl, rfl, rfl, rfl, hk, hl⟩ := hrel
    have HL := hid hl
    obtain ⟨-, ha, hs, hz⟩ := hl
    have k0 : (0 : Int) ≤ (k : Int) := by omega
    have a0 : (0 : Int) ≤ (a : Int) := by omega
    have s0 : (0 : Int) ≤ (s : Int) := by omega
    have z0 : (0 : Int) ≤ (z : Int) := by omega
    have a1 : (a : Int) ≤ 8 := by omega
    have s1 : (s : Int) ≤ 8 := by omega
    have z1 : (z : Int) ≤ 8 := by omega
    have zk : (z : Int) ≤ (k : Int) := by omega
    clear ha hs HS
    by_cases h8 : k < 8
    · have hkl : k < p.length := by rw [HLen.out]; exact h8
      have hix := HAt.out k hkl
      obtain ⟨x, hx⟩ : ∃ x, p[k]'hkl = x := ⟨_, rfl⟩
      have hx16 : x < 65536 := by rw [← hx]; exact HX.out _ (List.getElem_mem hkl)
      rw [hx] at hix
      have k1 : (k : Int) < 8 := by omega
      have HK := hid h8
      have x0 : (0 : Int) ≤ (x : Int) := by omega
      have x1 : (x : Int) < 65536 := by omega
      by_cases h0 : x = 0
      · have hx0 : p[k]'hkl = 0 := hx.trans h0
        subst h0
        by_cases hs : s < z + 1
        · have HN := hid (HL.out.more hkl hx0 hs)
          have g1 : (s : Int) < (z : Int) + 1 := by omega
          obtain ⟨y, hy⟩ : ∃ y, k - z = y := ⟨_, rfl⟩
          rw [hy] at HN
          have hy2 : (k : Int) + 1 - ((z : Int) + 1) = (y : Int) := by omega
          have hy3 : (k : Int) - (z : Int) = (y : Int) := by omega
          clear hs hx hx0 hkl h8 hk hx16 hz hy
          go_wp2_with fail
          go_round
          case rel => exact ⟨y, z + 1, z + 1, k + 1, by first | rfl | go_num | (simp only [hy2]), by go_num, by go_num, by go_num, HK.out, HN.out⟩
          case measure => have := HK.out; simp [intOf]; omega
        · have HN := hid (HL.out.less hkl hx0 hs)
          have g1 : ¬ (s : Int) < (z : Int) + 1 := by omega
          clear hs hx hx0 hkl h8 hk hx16 hz
          go_wp2_with fail
          go_round
          case rel => exact ⟨a, s, z + 1, k + 1, rfl, rfl, by go_num, by go_num, HK.out, HN.out⟩
          case measure => have := HK.out; simp [intOf]; omega
      · have HN := hid (HL.out.other hkl (by rw [hx]; exact h0))
        have g1 : ((x : Int) == 0) = false := by rw [beq_eq_false_iff_ne]; omega
        have g2 : ((x : Int) != 0) = true := by rw [bne_iff_ne]; omega
        clear h0 hx hkl h8 hk hx16 hz
        go_wp2_with fail
        go_round
        case rel => exact ⟨a, s, 0, k + 1, rfl, rfl, rfl, by go_num, HK.out, HN.out⟩
        case measure => have := HK.out; simp [intOf]; omega
    · have k1 : ¬ (k : Int) < 8 := by omega
      have HD := hid (HL.out.done (by rw [HLen.out]; exact h8))
      clear h8 hk hz HAt
      go_wp2_with fail
      go_ret2
      rw [HD.out]
      exact ⟨rfl, HB.out⟩
end Go.Proofs.YtghhdccnocpobaaDoor
