/- The document's Hex and piece. -/
import Derived.Test.YtghhdccnocpobaaDoorIpI
import Derived.Test.YtghhdccnocpobaaDoorIpC
import Derived.Test.YtghhdccnocpobaaDoorIpF
import Derived.Deep.RegionHeld3
import Derived.Deep.DrawnRows
import Derived.Deep.DeepMust
namespace Go.Proofs.YtghhdccnocpobaaDoor
open Go.RowKit
set_option linter.unusedVariables false
set_option maxRecDepth 20000
attribute [local go_sem ↓] Go.wp_at_zero Go.wp_at_succ
def hexPair (c : UInt8) : List UInt8 := [hx (c.toNat / 16), hx (c.toNat % 16)]
def hexLow (l : List UInt8) : List UInt8 := l.flatMap hexPair
theorem hexLow_snoc (l : List UInt8) (k : Nat) (h : k < l.length) : hexLow (l.take (k + 1)) = hexLow (l.take k) ++ hexPair l[k] := by
  unfold hexLow; rw [List.take_succ_eq_append_getElem h, List.flatMap_append]; simp
theorem hexLow_len (l : List UInt8) : (hexLow l).length = 2 * l.length := by
  induction l with
  | nil => rfl
  | cons c l ih => simp only [hexLow, List.flatMap_cons, List.length_append, List.length_cons] at ih ⊢; rw [ih]; simp [hexPair]; omega
theorem hexlow_at (h : Nat) (hh : h < 16) (w : World) : (Instr.index 9 (.string ⟨#[48, 49, 50, 51, 52, 53, 54, 55, 56, 57, 97, 98, 99, 100, 101, 102]⟩) (.int .u8 (h : Int))).run Tryd.prog w = .ok (.int .u8 ((hx h).toNat : Int)) w := by
  obtain rfl | rfl | rfl | rfl | rfl | rfl | rfl | rfl | rfl | rfl | rfl | rfl | rfl | rfl | rfl | rfl : h = 0 ∨ h = 1 ∨ h = 2 ∨ h = 3 ∨ h = 4 ∨ h = 5 ∨ h = 6 ∨ h = 7 ∨ h = 8 ∨ h = 9 ∨ h = 10 ∨ h = 11 ∨ h = 12 ∨ h = 13 ∨ h = 14 ∨ h = 15 := by omega
  all_goals kernel_rfl
theorem u8lowS (c : UInt8) : bits .and .u8 (c.toNat : Int) 15 = ((c.toNat % 16 : Nat) : Int) := by
  rw [show (15 : Int) = ((15 : Nat) : Int) from rfl, u8_and_nat c.toNat 15 (byte_lt c) (by decide), Nat.and_two_pow_sub_one_eq_mod c.toNat 4]
theorem pair_row (w : World) (c d : UInt8) : BRow (w.alloc (.cells #[.int .u8 (c.toNat : Int), .int .u8 (d.toNat : Int)] 5)) (.slice (some ⟨w.heap.size, 0, none⟩) 2 2) [c, d] := Row.lit fb w [c, d] 5 (0, 0) (by simp)
theorem stepB_append {w : World} {base : Nat} {v : Value} {xs : List UInt8} {x : Value} {l : List UInt8} (hown : BOwn w base v xs) (hrow : BRow w x l) (hlen : xs.length + l.length ≤ 1000000) (hbase : base ≤ w.heap.size)
    {ops : Array Oper} {o : Oper} {a : Act} {K : Act → World → Prop} {Q : Exit → Act → World → Prop} {E : Prop} (hgd : o.guard = none) (s y : Operand)
    (ho : o.op = .call { callee := .builtin .append, args := #[s, y], argTypes := #[36, 36] }) (hty : o.type = 36) (hs : a.eval s = v) (hx : a.eval y = x)
    (h : ∀ v' w', BOwn w' base v' (xs ++ l) → w.grownBy w' v.ownBlock → K (a.put o.dst v') w') :
    if Region.wanted o (yielded ops a.tmps) = true then Oper.wp Tryd.prog o a w K Q else E := by
  have hw : Region.wanted o (yielded ops a.tmps) = true := by simp [Region.wanted, hgd]
  rw [if_pos hw]
  obtain ⟨v', w', hr, ho', hg⟩ := append_run hown hrow hlen hbase
  unfold Oper.wp execOp
  simp only [ho, resolve, invoke, builtin, Sem.run_bind, Sem.run_pure, Result.andThen_ok, List.map_toArray, List.map_cons, List.map_nil, hs, hx, hty, hr]
  exact h v' w' ho' hg
set_option maxHeartbeats 1000000 in
theorem rhexS_calls (v : Value) (l : List UInt8) (w : World) (hv : BRow w v l) (hl : l.length ≤ 100000) :
    Calls Tryd.prog 50 #[v] w fun e w' => e = .returned (.string (strOf (hexLow l))) ∧ Below w.heap.size w w' := by
  obtain ⟨a, cap, rfl, h1, h2, h3⟩ := hv
  have H3 := hid h3
  clear h3
  unfold maxLen at h2
  go_enter Tryd.func50, Tryd.ntmps50
  go_wp2
  go_loopw [4, 5] (fun v i wr => ∃ k : Nat, k ≤ l.length ∧ i = .int .i64 k ∧ BOwn wr w.heap.size v (hexLow (l.take k)) ∧ Below w.heap.size w wr) (fun _ i _ => l.length - (intOf i).toNat)
  case atStart => exact ⟨0, Nat.zero_le _, rfl, Own.nil _ _ _ _, Below.refl _ _⟩
  case round =>
    obtain ⟨k, hk, rfl, ho, hb⟩ := hrel
    by_cases hlt : k < l.length
    · obtain ⟨b, off, rfl, hbl, hc⟩ := H3.out (by intro h; simp [h] at hlt)
      have hck := (hb.cell (p := ⟨b, off + k, none⟩) hbl).trans (hc k hlt)
      clear hc
      have HN := hid (hexLow_snoc l k hlt)
      have hlen := hexLow_len (l.take k)
      have hsz := hb.size
      rw [List.length_take] at hlen
      have hln : (hexLow (l.take k)).length ≤ 200000 := by omega
      clear hlen
      generalize hexLow (l.take k) = xs at *
      generalize l[k] = c at *
      have hcl := byte_lt c
      obtain ⟨hi, qh⟩ : ∃ hi : Nat, hi = c.toNat / 16 := ⟨_, rfl⟩
      obtain ⟨lo, ql⟩ : ∃ lo : Nat, lo = c.toNat % 16 := ⟨_, rfl⟩
      have eh : (c.toNat : Int) / 16 = (hi : Int) := by omega
      have el : bits .and .u8 (c.toNat : Int) 15 = (lo : Int) := by rw [u8lowS, ql]
      have ah := hexlow_at hi (by omega)
      have al := hexlow_at lo (by omega)
      have HP : Hid (hexPair c = [hx hi, hx lo]) := by show hexPair c = _; unfold hexPair; rw [qh, ql]
      clear qh ql
      have HO := hid ho
      have HB := hid hb
      clear ho hb
      have k0 : (0 : Int) ≤ (k : Int) := by omega
      have k1 : (k : Int) < (l.length : Int) := by omega
      generalize hx hi = ch at *
      generalize hx lo = cl at *
      go_wp2
      go_region_held3 (fun w' => w'.cell? ⟨b, off + k, none⟩ = some (.int .u8 (c.toNat : Int))) (go_keep) ((refine stepB_append (HO.out.alloc _).drew (pair_row wr _ _).drew (by simp; omega) (by simp; omega) rfl _ _ rfl rfl rfl rfl ?_; intro v' w1 ho1 hg1; have HO1 := hid ho1; have HB1 := hid ((HB.out.alloc hsz _).drew.grown hg1 (by simp; omega) (fun k hk => (World.ownsRow.lt HO.out k hk).1)); have hck1 : w1.cell? ⟨b, off + k, none⟩ = some (.int .u8 (c.toNat : Int)) := (HB1.out.cell (p := ⟨b, off + k, none⟩) hbl).trans ((HB.out.cell (p := ⟨b, off + k, none⟩) hbl).symm.trans hck); clear ho1 hg1))
      all_goals
        clear HO HB
        go_wp2
        go_roundw
        case rel => exact ⟨k + 1, by omega, by go_num, by rw [HN.out, HP.out]; assumption, by assumption⟩
        case measure => simp [intOf]; omega
    · have hr := run_string (by have := ho.row; rwa [List.take_of_length_le (by omega)] at this)
      have HB := hid hb
      clear ho hb
      go_wp2
      go_ret
      exact ⟨rfl, HB.out⟩
/- Zeros ahead go. -/
def stripR : List UInt8 → List UInt8
  | a :: b :: r => if a = 48 then stripR (b :: r) else a :: b :: r
  | l => l
theorem strip_zero (b : UInt8) (r : List UInt8) : stripR (48 :: b :: r) = stripR (b :: r) := by
  show (if (48 : UInt8) = 48 then stripR (b :: r) else _) = _
  rw [if_pos rfl]
theorem strip_other {a : UInt8} (h : a ≠ 48) (r : List UInt8) : stripR (a :: r) = a :: r := by
  match r with
  | [] => rfl
  | b :: r =>
    show (if a = 48 then stripR (b :: r) else a :: b :: r) = _
    rw [if_neg h]
theorem strip_four {n : Nat} (h : n < 65536) : stripR (hexLow [UInt8.ofNat (n / 256), UInt8.ofNat (n % 256)]) = digsOf 16 n := by
  have e1 : (UInt8.ofNat (n / 256)).toNat = n / 256 := u8_nat (by omega)
  have e2 : (UInt8.ofNat (n % 256)).toNat = n % 256 := u8_nat (by omega)
  have e : hexLow [UInt8.ofNat (n / 256), UInt8.ofNat (n % 256)] = [hx (n / 256 / 16), hx (n / 256 % 16), hx (n % 256 / 16), hx (n % 256 % 16)] := by
    simp only [hexLow, List.flatMap_cons, List.flatMap_nil, hexPair, e1, e2]
    rfl
  rw [e]
  have z : hx 0 = 48 := by decide
  by_cases h1 : n < 16
  · rw [show n / 256 / 16 = 0 by omega, show n / 256 % 16 = 0 by omega, show n % 256 / 16 = 0 by omega, z, strip_zero, strip_zero, strip_zero, digsOf_small h1, show n % 256 % 16 = n by omega]
    rfl
  · rw [digsOf_big (by decide) (by omega) h1]
    by_cases h2 : n / 16 < 16
    · rw [show n / 256 / 16 = 0 by omega, show n / 256 % 16 = 0 by omega, z, strip_zero, strip_zero, strip_other (fun e => by have := (hx_one (n := n % 256 / 16) (by omega)).2.1.1 e; omega), digsOf_small h2, show n % 256 / 16 = n / 16 by omega, show n % 256 % 16 = n % 16 by omega]
      rfl
    · rw [digsOf_big (by decide) (by omega) h2]
      by_cases h3 : n / 16 / 16 < 16
      · rw [show n / 256 / 16 = 0 by omega, z, strip_zero, strip_other (fun e => by have := (hx_one (n := n / 256 % 16) (by omega)).2.1.1 e; omega), digsOf_small h3, show n / 256 % 16 = n / 16 / 16 by omega, show n % 256 / 16 = n / 16 % 16 by omega, show n % 256 % 16 = n % 16 by omega]
        rfl
      · rw [digsOf_big (by decide) (by omega) h3, strip_other (fun e => by have := (hx_one (n := n / 256 / 16) (by omega)).2.1.1 e; omega), digsOf_small (show n / 16 / 16 / 16 < 16 by omega), show n / 256 / 16 = n / 16 / 16 / 16 by omega, show n / 256 % 16 = n / 16 / 16 % 16 by omega, show n % 256 / 16 = n / 16 % 16 by omega, show n % 256 % 16 = n % 16 by omega]
        rfl
def strLen : Value → Nat
  | .string s => s.size
  | _ => 0
theorem strLen_str (s : ByteArray) : strLen (.string s) = s.size := rfl
set_option maxHeartbeats 1000000 in
theorem piece_calls (n : Nat) (w : World) (hn : n < 65536) : Calls Tryd.prog 38 #[.int .u16 (n : Int)] w fun e w' => e = .returned (.string (strOf (digsOf 16 n))) ∧ Below w.heap.size w w' := by
  have HS := hid (strip_four hn)
  have e1 : (UInt8.ofNat (n / 256)).toNat = n / 256 := u8_nat (by omega)
  have e2 : (UInt8.ofNat (n % 256)).toNat = n % 256 := u8_nat (by omega)
  obtain ⟨c, hc⟩ : ∃ c, UInt8.ofNat (n / 256) = c := ⟨_, rfl⟩
  obtain ⟨d, hd⟩ : ∃ d, UInt8.ofNat (n % 256) = d := ⟨_, rfl⟩
  rw [hc] at e1 HS
  rw [hd] at e2 HS
  have f1 : (n : Int) / 256 = (c.toNat : Int) := by omega
  have f2 : (n : Int) % 256 = (d.toNat : Int) := by omega
  have c9 := byte_lt c
  have d9 := byte_lt d
  have HL : Hid ((hexLow [c, d]).length = 4) := by show (hexLow [c, d]).length = 4; rw [hexLow_len]; rfl
  clear hc hd e1 e2
  go_enter Tryd.func38, Tryd.ntmps38
  go_wp2_with fail
  refine (rhexS_calls _ [c, d] _ (pair_row w c d) (by simp)).mono ?_
  rintro e w1 ⟨rfl, hb⟩
  have HB := hid (((Below.refl w.heap.size w).alloc (Nat.le_refl _) (.cells #[.int .u8 (c.toNat : Int), .int .u8 (d.toNat : Int)] 5)).trans (hb.mono (by simp)))
  clear hb
  generalize hexLow [c, d] = L at *
  go_wp2_with fail
  go_loop [3] (fun v => ∃ cur : List UInt8, v = .string (strOf cur) ∧ stripR cur = digsOf 16 n ∧ cur.length ≤ 4 ∧ cur ≠ []) (fun v => strLen v)
  case atStart => exact ⟨L, rfl, HS.out, by rw [HL.out]; decide, by intro e; have := HL.out; rw [e] at this; cases this⟩
  case round =>
    obtain ⟨cur, rfl, hst, hlen, hne⟩ := hrel
    have HSt := hid hst
    have HLen := hid hlen
    clear hst hlen HS HL
    match cur, hne, HSt, HLen with
    | [a], _, HSt, HLen =>
      have s1 : (strOf [a]).size = 1 := rfl
      have HX : Hid (digsOf 16 n = [a]) := HSt.out.symm
      go_wp2_with fail
      go_ret
      exact ⟨by rw [HX.out]; rfl, HB.out⟩
    | a :: b :: r, _, HSt, HLen =>
      have hl : r.length ≤ 2 := by have := HLen.out; simp at this; omega
      have s1 : (strOf (a :: b :: r)).size = r.length + 2 := rfl
      have p0 : 0 < (strOf (a :: b :: r)).size := by rw [s1]; omega
      obtain ⟨z, hz⟩ : ∃ z, ((strOf (a :: b :: r))[0]'p0).toNat = z := ⟨_, rfl⟩
      have hza : a.toNat = z := hz
      have z9 : (z : Int) < 256 := by have := byte_lt a; omega
      have g1 : (1 : Int) < ((strOf (a :: b :: r)).size : Int) := by rw [s1]; omega
      have g2 : ((strOf (a :: b :: r)).size : Int) ≤ 4 := by rw [s1]; omega
      have he : (strOf (a :: b :: r)).extract 1 (strOf (a :: b :: r)).size = strOf (b :: r) := by
        rw [cut_mid _ 1 _ (Nat.le_refl _), s1]
        rw [str_data]
        congr 1
        rw [List.drop_succ_cons, List.drop_zero, List.take_of_length_le (by simp)]
      by_cases h48 : a = 48
      · have HS2 : Hid (stripR (b :: r) = digsOf 16 n) := by show _ = _; rw [← HSt.out, h48, strip_zero]
        have hz48 : z = 48 := by rw [← hza, h48]; rfl
        subst hz48
        have HM : Hid ((strOf (b :: r)).size < (strOf (a :: b :: r)).size) := by show (b :: r).length < (a :: b :: r).length; simp
        have HLn : Hid ((b :: r).length ≤ 4) := by show (b :: r).length ≤ 4; simp; omega
        clear hza h48 HSt HLen s1
        generalize strOf (a :: b :: r) = S at *
        go_wp2_with fail
        go_round
        case rel => exact ⟨b :: r, rfl, HS2.out, HLn.out, by simp⟩
        case measure => have := HM.out; simpa [strLen] using this
      · have HX : Hid (digsOf 16 n = a :: b :: r) := by show _ = _; rw [← HSt.out, strip_other h48]
        have hz48 : ((z : Int) == 48) = false := by rw [beq_eq_false_iff_ne]; intro e; exact h48 (UInt8.toNat_inj.1 (by rw [hza]; show z = 48; omega))
        clear hza h48 HSt HLen s1 he
        have HX2 : Hid (strOf (digsOf 16 n) = strOf (a :: b :: r)) := by show _ = _; rw [HX.out]
        clear HX
        generalize strOf (a :: b :: r) = S at *
        go_wp2_with fail
        go_ret
        exact ⟨by rw [HX2.out]; rfl, HB.out⟩
end Go.Proofs.YtghhdccnocpobaaDoor
