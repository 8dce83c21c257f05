/- The walks of Hex: the program's and the document's. -/
import Derived.Test.YtbaomapkggomfaaDoorBytesW
import Derived.Deep.RegionHeld3
import Derived.Deep.DrawnRows
import Derived.Deep.DeepMust
namespace Go.Proofs.YtbaomapkggomfaaDoor
open Go.RowKit
set_option linter.unusedVariables false
attribute [local go_sem ↓] Go.wp_at_zero Go.wp_at_succ
def hexD : List UInt8 := [48, 49, 50, 51, 52, 53, 54, 55, 56, 57, 97, 98, 99, 100, 101, 102]
def dg (h : Nat) : UInt8 := hexD.getD h 0
def pairL (c : UInt8) : List UInt8 := [dg (c.toNat / 16), dg (c.toNat % 16)]
def hexL (l : List UInt8) : List UInt8 := l.flatMap pairL
theorem hex_snoc (l : List UInt8) (k : Nat) (h : k < l.length) : hexL (l.take (k + 1)) = hexL (l.take k) ++ pairL l[k] := by
  unfold hexL; rw [List.take_succ_eq_append_getElem h, List.flatMap_append]; simp
theorem hex_len (l : List UInt8) : (hexL l).length = 2 * l.length := by
  induction l with
  | nil => rfl
  | cons c l ih => simp only [hexL, List.flatMap_cons, List.length_append, List.length_cons] at ih ⊢; rw [ih]; simp [pairL]; omega
theorem u8low (c : UInt8) : bits .and .u8 (c.toNat : Int) 15 = ((c.toNat % 16 : Nat) : Int) := by
  rw [show (15 : Int) = ((15 : Nat) : Int) from rfl, u8_and_nat c.toNat 15 (byte_lt c) (by decide), Nat.and_two_pow_sub_one_eq_mod c.toNat 4]
theorem hex_at (h : Nat) (hh : h < 16) (w : World) : (Instr.index 9 (.string ⟨#[48, 49, 50, 51, 52, 53, 54, 55, 56, 57, 97, 98, 99, 100, 101, 102]⟩) (.int .u8 (h : Int))).run Tryd.prog w = .ok (.int .u8 ((dg h).toNat : Int)) w := by
  obtain rfl | rfl | rfl | rfl | rfl | rfl | rfl | rfl | rfl | rfl | rfl | rfl | rfl | rfl | rfl | rfl : h = 0 ∨ h = 1 ∨ h = 2 ∨ h = 3 ∨ h = 4 ∨ h = 5 ∨ h = 6 ∨ h = 7 ∨ h = 8 ∨ h = 9 ∨ h = 10 ∨ h = 11 ∨ h = 12 ∨ h = 13 ∨ h = 14 ∨ h = 15 := by omega
  all_goals kernel_rfl
theorem Own.drew {w : World} {base : Nat} {v : Value} {l : List UInt8} (h : Own w base v l) : Own w.drew base v l := h
theorem BRow.drew {w : World} {v : Value} {l : List UInt8} (h : BRow w v l) : BRow w.drew v l := h
theorem Own.alloc {w : World} {base : Nat} {v : Value} {l : List UInt8} (h : Own w base v l) (o : Obj) : Own (w.alloc o) base v l := World.ownsRow.alloc h o
theorem two_row (w : World) (c d : UInt8) : BRow (w.alloc (.cells #[.int .u8 (c.toNat : Int), .int .u8 (d.toNat : Int)] 5)) (.slice (some ⟨w.heap.size, 0, none⟩) 2 2) [c, d] := lit_row w [c, d] (0, 0) (by simp)
theorem step_append {w : World} {base : Nat} {v : Value} {xs : List UInt8} {x : Value} {l : List UInt8} (hown : Own w base v xs) (hrow : BRow w x l) (hlen : xs.length + l.length ≤ 1000000) (hbase : base ≤ w.heap.size)
    {ops : Array Oper} {o : Oper} {a : Act} {K : Act → World → Prop} {Q : Exit → Act → World → Prop} {E : Prop} (hgd : o.guard = none) (s y : Operand)
    (ho : o.op = .call { callee := .builtin .append, args := #[s, y], argTypes := #[22, 22] }) (hty : o.type = 22) (hs : a.eval s = v) (hx : a.eval y = x)
    (h : ∀ v' w', Own w' base v' (xs ++ l) → w.grownBy w' v.ownBlock → K (a.put o.dst v') w') :
    if Region.wanted o (yielded ops a.tmps) = true then Oper.wp Tryd.prog o a w K Q else E := by
  have hw : Region.wanted o (yielded ops a.tmps) = true := by simp [Region.wanted, hgd]
  rw [if_pos hw]
  obtain ⟨v', w', hr, ho', hg⟩ := append_run hown hrow hlen hbase
  unfold Oper.wp execOp
  simp only [ho, resolve, invoke, builtin, Sem.run_bind, Sem.run_pure, Result.andThen_ok, List.map_toArray, List.map_cons, List.map_nil, hs, hx, hty, hr]
  exact h v' w' ho' hg
theorem make0 (n : Nat) (hn : n ≤ 1000000) (w : World) : (Instr.makeSlice 22 (.int .i64 0) (.int .i64 (2 * (n : Int)))).run Tryd.prog w = .ok (.slice (some ⟨w.heap.size, 0, none⟩) 0 (2 * n)) (w.alloc (.cells (madeCells #[.int .u8 0] (2 * n)) 5)) := by
  obtain ⟨i0, hi, hz0, hz1, hz2⟩ := info_parts info_u8
  have h := run_make (P := Tryd.prog) w 22 5 i0 (.int .u8 0) Tryd.underlying22 hi hz0 .i64 .i64 0 (2 * (n : Int)) (by omega) (by omega) (by rw [hz2]; omega) (by omega)
  rw [hz1, show (2 * (n : Int)).toNat = 2 * n by omega] at h
  simpa [Value.cells] using h
theorem Own.made' (w : World) (n : Nat) (hn : n ≤ 1000000) : Own (w.alloc (.cells (madeCells #[.int .u8 0] n) 5)) w.heap.size (.slice (some ⟨w.heap.size, 0, none⟩) 0 n) [] := World.ownsRow_made w _ n (Nat.le_refl _) (by unfold maxLen; omega) (by rw [size_madeCells]; omega)
set_option maxHeartbeats 1000000 in
theorem hex_calls (v : Value) (l : List UInt8) (w : World) (hv : BRow w v l) (hl : l.length ≤ 100000) :
    Calls Tryd.prog 30 #[v] w fun e w' => e = .returned (.string (strOf (hexL l))) ∧ Below w.heap.size w w' := by
  obtain ⟨a, cap, rfl, h1, h2, h3⟩ := hv
  have hmk := make0 l.length (by omega)
  have H3 := hid h3
  clear h3
  unfold maxLen at h2
  go_enter Tryd.func30, Tryd.ntmps30
  go_wp2
  go_loopw [3, 12] (fun v i wr => ∃ k : Nat, k ≤ l.length ∧ i = .int .i64 k ∧ Own wr w.heap.size v (hexL (l.take k)) ∧ Below w.heap.size w wr) (fun _ i _ => l.length - (intOf i).toNat)
  case atStart => exact ⟨0, Nat.zero_le _, rfl, Own.made' w _ (by omega), (Below.refl _ _).alloc (Nat.le_refl _) _⟩
  case round =>
    obtain ⟨k, hk, rfl, ho, hb⟩ := hrel
    clear hmk
    by_cases hlt : k < l.length
    · obtain ⟨b, off, rfl, hbl, hc⟩ := H3.out (by intro h; simp [h] at hlt)
      have hck := (hb.cell (p := ⟨b, off + k, none⟩) hbl).trans (hc k hlt)
      clear hc
      have HN := hid (hex_snoc l k hlt)
      have hlen := hex_len (l.take k)
      have hsz := hb.size
      rw [List.length_take] at hlen
      have hln : (hexL (l.take k)).length ≤ 200000 := by omega
      clear hlen
      generalize hexL (l.take k) = xs at *
      generalize l[k] = c at *
      have hcl := byte_lt c
      obtain ⟨hi, qh⟩ : ∃ hi : Nat, hi = c.toNat / 16 := ⟨_, rfl⟩
      obtain ⟨lo, ql⟩ : ∃ lo : Nat, lo = c.toNat % 16 := ⟨_, rfl⟩
      have eh : (c.toNat : Int) / 16 = (hi : Int) := by omega
      have el : bits .and .u8 (c.toNat : Int) 15 = (lo : Int) := by rw [u8low, ql]
      have ah := hex_at hi (by omega)
      have al := hex_at lo (by omega)
      have HP : Hid (pairL c = [dg hi, dg lo]) := by show pairL c = _; unfold pairL; rw [qh, ql]
      clear qh ql
      have HO := hid ho
      have HB := hid hb
      clear ho hb
      go_wp2
      go_region_held3 (fun w' => True) (trivial) ((refine step_append (HO.out.alloc _).drew (two_row wr _ _).drew (by simp; omega) (by simp; omega) rfl _ _ rfl rfl rfl rfl ?_; intro v' w1 ho1 hg1))
      all_goals
        have HO1 := hid ho1
        have HB1 := hid ((HB.out.alloc hsz _).drew.grown hg1 (by simp; omega) (fun k hk => (World.ownsRow.lt HO.out k hk).1))
        clear ho1 hg1 HO HB
        go_wp2
        go_roundw
        case rel => exact ⟨k + 1, by omega, by go_num, by rw [HN.out, HP.out]; exact HO1.out, HB1.out⟩
        case measure => simp [intOf]; omega
    · have hr := run_string (by have := ho.row; rwa [List.take_of_length_le (by omega)] at this)
      have HB := hid hb
      clear ho hb
      go_wp2
      go_ret
      exact ⟨rfl, HB.out⟩
set_option maxHeartbeats 1000000 in
theorem rhex_calls (v : Value) (l : List UInt8) (w : World) (hv : BRow w v l) (hl : l.length ≤ 100000) :
    Calls Tryd.prog 31 #[v] w fun e w' => e = .returned (.string (strOf (hexL l))) ∧ Below w.heap.size w w' := by
  obtain ⟨a, cap, rfl, h1, h2, h3⟩ := hv
  have H3 := hid h3
  clear h3
  unfold maxLen at h2
  go_enter Tryd.func31, Tryd.ntmps31
  go_wp2
  go_loopw [4, 5] (fun v i wr => ∃ k : Nat, k ≤ l.length ∧ i = .int .i64 k ∧ Own wr w.heap.size v (hexL (l.take k)) ∧ Below w.heap.size w wr) (fun _ i _ => l.length - (intOf i).toNat)
  case atStart => exact ⟨0, Nat.zero_le _, rfl, Own.nil _ _, Below.refl _ _⟩
  case round =>
    obtain ⟨k, hk, rfl, ho, hb⟩ := hrel
    by_cases hlt : k < l.length
    · obtain ⟨b, off, rfl, hbl, hc⟩ := H3.out (by intro h; simp [h] at hlt)
      have hck := (hb.cell (p := ⟨b, off + k, none⟩) hbl).trans (hc k hlt)
      clear hc
      have HN := hid (hex_snoc l k hlt)
      have hlen := hex_len (l.take k)
      have hsz := hb.size
      rw [List.length_take] at hlen
      have hln : (hexL (l.take k)).length ≤ 200000 := by omega
      clear hlen
      generalize hexL (l.take k) = xs at *
      generalize l[k] = c at *
      have hcl := byte_lt c
      obtain ⟨hi, qh⟩ : ∃ hi : Nat, hi = c.toNat / 16 := ⟨_, rfl⟩
      obtain ⟨lo, ql⟩ : ∃ lo : Nat, lo = c.toNat % 16 := ⟨_, rfl⟩
      have eh : (c.toNat : Int) / 16 = (hi : Int) := by omega
      have el : bits .and .u8 (c.toNat : Int) 15 = (lo : Int) := by rw [u8low, ql]
      have ah := hex_at hi (by omega)
      have al := hex_at lo (by omega)
      have HP : Hid (pairL c = [dg hi, dg lo]) := by show pairL c = _; unfold pairL; rw [qh, ql]
      clear qh ql
      have HO := hid ho
      have HB := hid hb
      clear ho hb
      have k0 : (0 : Int) ≤ (k : Int) := by omega
      have k1 : (k : Int) < (l.length : Int) := by omega
      go_wp2
      go_region_held3 (fun w' => w'.cell? ⟨b, off + k, none⟩ = some (.int .u8 (c.toNat : Int))) (go_keep) ((refine step_append (HO.out.alloc _).drew (two_row wr _ _).drew (by simp; omega) (by simp; omega) rfl _ _ rfl rfl rfl rfl ?_; intro v' w1 ho1 hg1; have HO1 := hid ho1; have HB1 := hid ((HB.out.alloc hsz _).drew.grown hg1 (by simp; omega) (fun k hk => (World.ownsRow.lt HO.out k hk).1)); have hck1 : w1.cell? ⟨b, off + k, none⟩ = some (.int .u8 (c.toNat : Int)) := (HB1.out.cell (p := ⟨b, off + k, none⟩) hbl).trans ((HB.out.cell (p := ⟨b, off + k, none⟩) hbl).symm.trans hck); clear ho1 hg1))
      all_goals
        clear HO HB
        go_wp2
        go_roundw
        case rel => exact ⟨k + 1, by omega, by go_num, by rw [HN.out, HP.out]; assumption, by assumption⟩
        case measure => simp [intOf]; omega
    · have hr := run_string (by have := ho.row; rwa [List.take_of_length_le (by omega)] at this)
      have HB := hid hb
      clear ho hb
      go_wp2
      go_ret
      exact ⟨rfl, HB.out⟩
end Go.Proofs.YtbaomapkggomfaaDoor
