/- The walk of the document's own Unhex. -/
import Derived.Test.YtbaomapkggomfaaDoorUnhexW
import Derived.Deep.QuietTactic
import Derived.BigQuiet
namespace Go.Proofs.YtbaomapkggomfaaDoor
open Go.RowKit
set_option linter.unusedVariables false
/-- The value of a digit, great or small; -1: none. -/
def rd (c : UInt8) : Int := if 48 ≤ c.toNat ∧ c.toNat ≤ 57 then (c.toNat : Int) - 48 else if 97 ≤ c.toNat ∧ c.toNat ≤ 102 then (c.toNat : Int) - 87 else if 65 ≤ c.toNat ∧ c.toNat ≤ 70 then (c.toNat : Int) - 55 else -1
theorem rd_bd (c : UInt8) : -1 ≤ rd c ∧ rd c ≤ 15 := by
  unfold rd; repeat' split
  all_goals omega
theorem rd_dv {c : UInt8} {d : Nat} (h : dv c = some d) : rd c = (d : Int) := by
  unfold dv at h; unfold rd
  split at h
  · rename_i g; rw [if_pos g]; simp at h; omega
  · rename_i g; rw [if_neg g]
    split at h
    · rename_i g2; rw [if_pos g2]; simp at h; omega
    · cases h
theorem rdigit_calls (c : UInt8) (w : World) : Calls Tryd.prog 35 #[.int .u8 (c.toNat : Int)] w fun e w' => e = .returned (.int .i64 (rd c)) ∧ w' = w := by
  have hcl := byte_lt c
  have HR : Hid (rd c = if 48 ≤ c.toNat ∧ c.toNat ≤ 57 then (c.toNat : Int) - 48 else if 97 ≤ c.toNat ∧ c.toNat ≤ 102 then (c.toNat : Int) - 87 else if 65 ≤ c.toNat ∧ c.toNat ≤ 70 then (c.toNat : Int) - 55 else -1) := rfl
  generalize c.toNat = n at *
  have hc : n < 48 ∨ (48 ≤ n ∧ n ≤ 57) ∨ (57 < n ∧ n < 65) ∨ (57 < n ∧ 65 ≤ n ∧ n ≤ 70) ∨ (70 < n ∧ n < 97) ∨ (57 < n ∧ 97 ≤ n ∧ n ≤ 102) ∨ 102 < n := by omega
  rcases hc with g | ⟨g1, g2⟩ | ⟨g1, g2⟩ | ⟨g1, g2, g3⟩ | ⟨g1, g2⟩ | ⟨g1, g2, g3⟩ | g
  all_goals
    go_enter Tryd.func35, Tryd.ntmps35
    go_wp2
    go_ret
    refine ⟨?_, rfl⟩
    rw [HR.out]
    repeat (first | rw [if_pos (by omega)] | rw [if_neg (by omega)])
    first | rfl | exact ret_int (by omega)
theorem i64pack (h l : Nat) (hh : h < 16) (hl : l < 16) : bits .or .i64 ((h : Int) * 16) (l : Int) = ((UInt8.ofNat (h * 16 + l)).toNat : Int) := by
  have e : (UInt8.ofNat (h * 16 + l)).toNat = h * 16 + l := by simp; omega
  have := Nat.two_pow_add_eq_or_of_lt (i := 4) (show l < 2 ^ 4 by omega) h
  rw [e, show h * 16 + l = h * 16 ||| l by rw [Nat.mul_comm h 16]; exact this]
  exact (bits_nat .i64 63 (by decide) (fun n h0 h1 => by rw [IntKind.wrap_i64]; omega) (h * 16) l (by omega) (by omega)).2
theorem one_row (w : World) (c : UInt8) : BRow (w.alloc (.cells #[.int .u8 (c.toNat : Int)] 5)) (.slice (some ⟨w.heap.size, 0, none⟩) 1 1) [c] := lit_row w [c] (0, 0) (by simp)
theorem index_at (s : ByteArray) (i : Int) (k : Nat) (hi : i = (k : Int)) (h : k < s.size) (w : World) : (Instr.index 9 (.string s) (.int .i64 i)).run Tryd.prog w = .ok (.int .u8 (s[k].toNat : Int)) w := by
  subst hi
  rw [run_index_string w 9 s .i64 (k : Int) Tryd.underlying9]
  simp [h]
theorem Own.drewN {w : World} {base : Nat} {v : Value} {l : List UInt8} (h : Own w base v l) : ∀ n, Own (w.drewN n) base v l
  | 0 => h
  | n + 1 => (Own.drewN h n).drew
/-- What is gathered is a beginning of whatever bytes the text tells. -/
def Begun (bs o : List UInt8) (k : Nat) : Prop := ∀ l, hexL l = bs → l.take k = o
theorem Begun.none {bs o : List UInt8} {k : Nat} {c1 c2 : UInt8} (h1 : bs[2 * k]? = some c1) (h2 : bs[2 * k + 1]? = some c2) (hn : rd c1 < 0 ∨ rd c2 < 0) : ∀ l, hexL l ≠ bs := by
  refine no_hex h1 h2 ?_
  rcases hn with hn | hn
  · left; cases h : dv c1 with
    | none => rfl
    | some d => rw [rd_dv h] at hn; omega
  · right; cases h : dv c2 with
    | none => rfl
    | some d => rw [rd_dv h] at hn; omega
theorem Begun.step {bs o : List UInt8} {k h l : Nat} {c1 c2 : UInt8} (hb : Begun bs o k) (h1 : bs[2 * k]? = some c1) (h2 : bs[2 * k + 1]? = some c2) (e1 : rd c1 = (h : Int)) (e2 : rd c2 = (l : Int)) :
    Begun bs (o ++ [UInt8.ofNat (h * 16 + l)]) (k + 1) := by
  intro x hx
  have hl : x.length * 2 = bs.length := by rw [← hx, hex_len]; omega
  have hbl : 2 * k + 1 < bs.length := by
    rcases Nat.lt_or_ge (2 * k + 1) bs.length with h | h
    · exact h
    · rw [List.getElem?_eq_none h] at h2; cases h2
  have hk : k < x.length := by omega
  obtain ⟨p1, p2⟩ := hex_split x k hk
  rw [hx, h1] at p1
  rw [hx, h2] at p2
  injection p1 with p1
  injection p2 with p2
  have d1 := (pair_dv x[k]).1
  have d2 := (pair_dv x[k]).2
  rw [← p1] at d1
  rw [← p2] at d2
  have r1 := rd_dv d1
  have r2 := rd_dv d2
  rw [List.take_succ_eq_append_getElem hk, hb x hx, show h * 16 + l = x[k].toNat by omega]
  simp
set_option maxHeartbeats 1000000 in
theorem runhex_calls (s : ByteArray) (w : World) (hs : s.size ≤ 100000) :
    Calls Tryd.prog 29 #[.string s] w fun e w' => UnhexPost s w e w' := by
  go_enter Tryd.func29, Tryd.ntmps29
  go_wp2
  go_loopw [4, 5] (fun v i wr => ∃ (k : Nat) (o : List UInt8), 2 * k ≤ s.size ∧ i = .int .i64 (2 * (k : Int)) ∧ o.length = k ∧ Own wr w.heap.size v o ∧ Below w.heap.size w wr ∧ Begun s.data.toList o k) (fun _ i _ => s.size - (intOf i).toNat)
  case atStart => exact ⟨0, [], Nat.zero_le _, rfl, rfl, Own.nil _ _, Below.refl _ _, fun l _ => rfl⟩
  case round =>
    obtain ⟨k, o, hk, rfl, hol, ho, hb, hg⟩ := hrel
    have HL := hid hol
    have HO := hid ho
    have HB := hid hb
    have HG := hid hg
    have hsz := hb.size
    clear hol ho hb hg
    by_cases hlt : 2 * k + 1 < s.size
    · have A1 := hid (data_at s (2 * k) (by omega))
      have A2 := hid (data_at s (2 * k + 1) (by omega))
      have i1 := index_at s (2 * (k : Int)) (2 * k) (by omega) (by omega)
      have i2 := index_at s (2 * (k : Int) + 1) (2 * k + 1) (by omega) (by omega)
      have b1 := rd_bd (s[2 * k])
      have b2 := rd_bd (s[2 * k + 1])
      obtain ⟨x, hx⟩ : ∃ x, x = rd s[2 * k] := ⟨_, rfl⟩
      obtain ⟨y, hy⟩ : ∃ y, y = rd s[2 * k + 1] := ⟨_, rfl⟩
      go_wp2_with fail
      go_quiet ((go_at_call 35; exact Calls.quiet_of_same (rdigit_calls _ _)))
      rw [← hx] at b1
      rw [← hy] at b2
      rw [← hx, ← hy]
      have HX := hid hx
      have HY := hid hy
      clear hx hy i1 i2
      have HB2 := hid (below_drewN HB.out nq)
      have HO2 := hid (Own.drewN HO.out nq)
      have hsz2 : w.heap.size ≤ (wr.drewN nq).heap.size := HB2.out.size
      generalize wr.drewN nq = wx at *
      clear HO HB hsz
      by_cases hneg : x < 0 ∨ y < 0
      · have HN := hid (Begun.none (o := o) A1.out A2.out (by rw [← HX.out, ← HY.out]; exact hneg))
        by_cases hx0 : x < 0
        · clear hneg
          go_wp2
          go_ret2
          exact UnhexPost.no HN.out (HB2.out)
        · have hy0 : y < 0 := by omega
          clear hneg
          go_wp2
          go_ret2
          exact UnhexPost.no HN.out (HB2.out)
      · obtain ⟨h, rfl⟩ := Int.eq_ofNat_of_zero_le (show 0 ≤ x by omega)
        obtain ⟨l, rfl⟩ := Int.eq_ofNat_of_zero_le (show 0 ≤ y by omega)
        have hh : h < 16 := by omega
        have hl : l < 16 := by omega
        have HE := hid (HG.out.step A1.out A2.out HX.out.symm HY.out.symm)
        have pk := i64pack h l hh hl
        clear hneg b1 b2
        generalize UInt8.ofNat (h * 16 + l) = c at *
        have hcl := byte_lt c
        obtain ⟨v', w1, hr, ho1, hg1⟩ := append_run (HO2.out.alloc (.cells #[.int .u8 (c.toNat : Int)] 5)) (one_row wx c) (by rw [HL.out]; simp; omega) (by simp; omega)
        have HO3 := hid ho1
        have HB3 := hid ((HB2.out.alloc hsz2 _).grown hg1 (by simp; omega) (fun k hk => (World.ownsRow.lt HO2.out k hk).1))
        clear ho1 hg1
        go_wp2_with (at_builtin; go_must (refine wpList_append_run hr rfl _ _ rfl rfl rfl rfl ?_))
        go_roundw
        case rel => exact ⟨k + 1, o ++ [c], by omega, by go_num, by rw [List.length_append, HL.out]; rfl, HO3.out, HB3.out, HE.out⟩
        case measure => simp [intOf]; omega
    · have hhex := rhex_calls _ o _ HO.out.row (by rw [HL.out]; omega)
      have HH := hid hhex
      clear hhex
      go_wp2_with fail
      refine HH.out.mono ?_
      rintro e w1 ⟨rfl, hb1⟩
      have HB1 := hid (below_trans HB.out (hb1.mono (Nat.le_refl _)))
      have HR := hid (HO.out.row.below hb1)
      have e1 := strOf_list (hexL o)
      have e2 := ByteArray.toList_eq s
      by_cases he : hexL o = s.data.toList
      · have hq : (hexL o == s.data.toList) = true := by rw [he]; exact beq_self_eq_true _
        have HE := hid he
        clear he hb1
        go_wp2
        go_ret2
        exact UnhexPost.yes HR.out HE.out (HB1.out)
      · have hq : (hexL o == s.data.toList) = false := beq_eq_false_iff_ne.2 he
        have HN : Hid (∀ l, hexL l ≠ s.data.toList) := by
          intro l hl
          have hlen : l.length * 2 = s.size := by rw [← data_len, ← hl, hex_len]; omega
          have := HG.out l hl
          rw [List.take_of_length_le (by omega)] at this
          exact he (by rw [← this]; exact hl)
        clear he hb1
        go_wp2
        go_ret2
        exact UnhexPost.no HN.out (HB1.out)
end Go.Proofs.YtbaomapkggomfaaDoor
