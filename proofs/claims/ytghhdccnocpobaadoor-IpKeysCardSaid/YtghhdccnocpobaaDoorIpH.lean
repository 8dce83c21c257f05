/- The document's Parse4. -/
import Derived.Test.YtghhdccnocpobaaDoorIpG
namespace Go.Proofs.YtghhdccnocpobaaDoor
open Go.RowKit
set_option linter.unusedVariables false
set_option maxRecDepth 20000
theorem sum4_step {ns : List Nat} {k acc : Nat} (h : k + 1 < ns.length) : sum4 k (ns.drop k) acc = if 255 < ns[k] then none else sum4 (k + 1) (ns.drop (k + 1)) (acc + ns[k] * 2 ^ (8 * (3 - k))) := by
  rw [List.drop_eq_getElem_cons (show k < ns.length by omega), List.drop_eq_getElem_cons h]
  rfl
theorem sum4_end {ns : List Nat} {k acc : Nat} (h : k + 1 = ns.length) : sum4 k (ns.drop k) acc = if ns[k] / 2 ^ (8 * (4 - k)) = 0 then some (acc + ns[k]) else none := by
  rw [List.drop_eq_getElem_cons (show k < ns.length by omega), List.drop_of_length_le (show ns.length ≤ k + 1 by omega)]
  rfl
/-- What Parse4 answers. -/
def P4Post (l : List UInt8) (w : World) (e : Ending) (w' : World) : Prop := e = .returned (.tuple #[.int .u32 ((parse4R l).1 : Int), .int .i64 ((parse4R l).2 : Int)]) ∧ Below w.heap.size w w'
theorem P4Post.mk {l : List UInt8} {w w' : World} {n m : Nat} (h : parse4R l = (n, m)) (hb : Below w.heap.size w w') : P4Post l w (.returned (.tuple #[.int .u32 (n : Int), .int .i64 (m : Int)])) w' := by unfold P4Post; rw [h]; exact ⟨rfl, hb⟩
theorem parse4_long {l : List UInt8} (h : 4000 < l.length) : parse4R l = (0, 11) := by unfold parse4R; rw [if_pos h]
theorem parse4_many {l : List UInt8} (h : ¬ 4000 < l.length) (h4 : 4 < (partsR l).length) : parse4R l = (0, 4) := by unfold parse4R; rw [if_neg h, if_pos h4]
theorem parse4_form {l : List UInt8} (h : ¬ 4000 < l.length) (h4 : ¬ 4 < (partsR l).length) (hn : numsR (partsR l) = none) : parse4R l = (0, 4) := by unfold parse4R; rw [if_neg h, if_neg h4, hn]
theorem nums_le : ∀ {ps : List (List UInt8)} {ns : List Nat}, numsR ps = some ns → ∀ x ∈ ns, x ≤ 1099511627776
  | [], ns, h => by
    have : some [] = some ns := h
    injection this with e
    subst e
    intro x hx
    cases hx
  | p :: r, ns, h => by
    have h' : (match numR p with
      | none => none
      | some n => (numsR r).map (n :: ·)) = some ns := h
    cases hn : numR p with
    | none => rw [hn] at h'; cases h'
    | some n =>
      rw [hn] at h'
      obtain ⟨m, hm, rfl⟩ := Option.map_eq_some_iff.1 h'
      intro x hx
      rcases List.mem_cons.1 hx with rfl | hx
      · exact numR_lt hn
      · exact nums_le hm x hx
/-- The numbers of the first k parts. -/
def NumsAt (ps : List (List UInt8)) (k : Nat) (ns : List Nat) : Prop := ns.length = k ∧ numsR ps = (numsR (ps.drop k)).map (ns ++ ·)
theorem NumsAt.start (ps : List (List UInt8)) : NumsAt ps 0 [] := ⟨rfl, by simp⟩
theorem nums_at {ps : List (List UInt8)} {k : Nat} (h : k < ps.length) : numsR (ps.drop k) = match numR ps[k] with
    | none => none
    | some n => (numsR (ps.drop (k + 1))).map (n :: ·) := by
  rw [List.drop_eq_getElem_cons h]
  rfl
theorem NumsAt.none {ps : List (List UInt8)} {k : Nat} {ns : List Nat} (h : NumsAt ps k ns) (hk : k < ps.length) (hn : numR ps[k] = none) : numsR ps = none := by
  rw [h.2, nums_at hk, hn]
  rfl
theorem NumsAt.step {ps : List (List UInt8)} {k n : Nat} {ns : List Nat} (h : NumsAt ps k ns) (hk : k < ps.length) (hn : numR ps[k] = some n) : NumsAt ps (k + 1) (ns ++ [n]) := by
  refine ⟨by rw [List.length_append, h.1]; rfl, ?_⟩
  rw [h.2, nums_at hk, hn]
  simp only [Option.map_map]
  congr 1
  funext x
  simp
theorem NumsAt.done {ps : List (List UInt8)} {k : Nat} {ns : List Nat} (h : NumsAt ps k ns) (hk : ¬ k < ps.length) : numsR ps = some ns := by
  rw [h.2, List.drop_of_length_le (by omega)]
  simp [numsR]
theorem IOwn_one (w : World) (x : Int) : IRow (w.alloc (.cells #[.int .i64 x] 3)) (.slice (some ⟨w.heap.size, 0, none⟩) 1 1) [x] := Row.lit fi w [x] 3 (0, 0) (by simp)
def ints (ns : List Nat) : List Int := ns.map fun n : Nat => (n : Int)
theorem ints_len (ns : List Nat) : (ints ns).length = ns.length := by simp [ints]
theorem ints_snoc (ns : List Nat) (n : Nat) : ints (ns ++ [n]) = ints ns ++ [(n : Int)] := by simp [ints]
theorem row_at {α : Type} {f : α → Value} {w : World} {a : Option Addr} {n cap k : Nat} {l : List α} (h : Row f w (.slice a n cap) l) (hk : k < l.length) : ∃ b off, a = some ⟨b, off, none⟩ ∧ b < w.heap.size ∧ w.cell? ⟨b, off + k, none⟩ = some (f l[k]) := by
  obtain ⟨a', cap', he, _, _, h3⟩ := h
  injection he with e1 e2 e3
  obtain ⟨b, off, e, hlt, hc⟩ := h3 (by intro h; simp [h] at hk)
  exact ⟨b, off, e1.trans e, hlt, hc k hk⟩
/-- The sum under way. -/
def SumAt (ns : List Nat) (k acc : Nat) : Prop := acc ≤ k * 4294967296 ∧ (k < ns.length → sum4 k (ns.drop k) acc = sum4 0 ns 0) ∧ (k = ns.length → sum4 0 ns 0 = some acc)
theorem SumAt.start {ns : List Nat} (h : ns ≠ []) : SumAt ns 0 0 := ⟨Nat.le_refl _, fun _ => by rw [List.drop_zero], fun e => absurd (List.eq_nil_of_length_eq_zero e.symm) h⟩
theorem SumAt.great {ns : List Nat} {k acc : Nat} (h : SumAt ns k acc) (hk : k + 1 < ns.length) (hx : 255 < ns[k]) : sum4 0 ns 0 = none := by
  rw [← h.2.1 (by omega), sum4_step hk, if_pos hx]
theorem SumAt.step {ns : List Nat} {k acc x m : Nat} (h : SumAt ns k acc) (hk : k + 1 < ns.length) (hx : ns[k] = x) (h255 : ¬ 255 < x) (hm : 2 ^ (8 * (3 - k)) = m) (hm2 : m ≤ 16777216) : SumAt ns (k + 1) (acc + x * m) := by
  refine ⟨?_, fun _ => ?_, fun e => by omega⟩
  · have h1 := h.1
    have : x * m ≤ 255 * 16777216 := Nat.mul_le_mul (by omega) hm2
    omega
  · rw [← h.2.1 (by omega), sum4_step hk, if_neg (by rw [hx]; exact h255), hx, hm]
theorem SumAt.over {ns : List Nat} {k acc x m : Nat} (h : SumAt ns k acc) (hk : k + 1 = ns.length) (hx : ns[k] = x) (hm : 2 ^ (8 * (4 - k)) = m) (hd : ¬ x / m = 0) : sum4 0 ns 0 = none := by
  rw [← h.2.1 (by omega), sum4_end hk, if_neg (by rw [hx, hm]; exact hd)]
theorem SumAt.last {ns : List Nat} {k acc x m : Nat} (h : SumAt ns k acc) (hk : k + 1 = ns.length) (hx : ns[k] = x) (hm : 2 ^ (8 * (4 - k)) = m) (hm2 : m ≤ 4294967296) (hm0 : 0 < m) (hd : x / m = 0) : SumAt ns (k + 1) (acc + x) := by
  have hxm : x < m := by
    rcases Nat.lt_or_ge x m with h' | h'
    · exact h'
    · have := Nat.div_pos h' hm0; omega
  refine ⟨by have := h.1; omega, fun e => by omega, fun _ => ?_⟩
  rw [← h.2.1 (by omega), sum4_end hk, if_pos (by rw [hx, hm]; exact hd), hx]
set_option maxHeartbeats 8000000 in
theorem parse4_calls (s : ByteArray) (w : World) (hs : s.size ≤ 100000) : Calls Tryd.prog 11 #[.string s] w fun e w' => P4Post s.data.toList w e w' := by
  have HLN := hid (bytes_num s)
  by_cases h4000 : 4000 < s.size
  · have HX := hid (parse4_long (by rw [HLN.out]; exact h4000))
    have s1 : (4000 : Int) < (s.size : Int) := by omega
    clear h4000
    go_enter Tryd.func11, Tryd.ntmps11
    go_wp2_with fail
    go_ret2
    exact P4Post.mk HX.out (Below.refl _ _)
  · have s1 : ¬ (4000 : Int) < (s.size : Int) := by omega
    have HL : Hid (¬ 4000 < s.data.toList.length) := by show ¬ _; rw [HLN.out]; exact h4000
    have HL4 : Hid (s.data.toList.length ≤ 4000) := by have := HL.out; show _ ≤ _; omega
    have HMem := hid (fun p (h : p ∈ partsR s.data.toList) => mem_parts h)
    have HNE := hid (parts_ne s.data.toList)
    have HMany := hid (parse4_many HL.out)
    have HForm := hid (parse4_form HL.out)
    have HS := hid hs
    obtain ⟨ps, hps⟩ : ∃ ps, partsR s.data.toList = ps := ⟨_, rfl⟩
    have HPS := hid hps
    clear h4000 hs
    go_enter Tryd.func11, Tryd.ntmps11
    go_wp2_with fail
    refine (parts_calls s _ HS.out).mono ?_
    rintro e w1 ⟨⟨v, rfl, hv⟩, hb1⟩
    rw [hps] at HMem HNE HMany HForm hv
    have HB1 := hid hb1
    have HV := hid hv
    obtain ⟨a, cap, rfl, h1, h2, h3⟩ := hv
    unfold maxLen at h2
    clear hb1 h3 hps
    by_cases h4 : 4 < ps.length
    · have HX := hid (HMany.out h4)
      have n1 : (4 : Int) < (ps.length : Int) := by omega
      clear h4
      go_wp2_with fail
      go_ret2
      exact P4Post.mk HX.out HB1.out
    · have n1 : ¬ (4 : Int) < (ps.length : Int) := by omega
      have HForm2 := hid (HForm.out h4)
      have n4 : ps.length ≤ 4 := by omega
      clear HMany HForm h4
      go_wp2_with fail
      go_loopw [5, 6] (fun v i wr => ∃ (k : Nat) (ns : List Nat), k ≤ ps.length ∧ i = .int .i64 (k : Int) ∧ NumsAt ps k ns ∧ IOwn wr w1.heap.size v (ints ns) ∧ Below w1.heap.size w1 wr) (fun _ i _ => ps.length - (intOf i).toNat)
      case atStart => exact ⟨0, [], Nat.zero_le _, rfl, NumsAt.start ps, Own.nil _ _ _ _, Below.refl _ _⟩
      case round =>
        obtain ⟨k, ns, hk, rfl, hna, ho, hb⟩ := hrel
        have HNA := hid hna
        have HO := hid ho
        have HB := hid hb
        have hsz := hb.size
        have hnl := hna.1
        have k0 : (0 : Int) ≤ (k : Int) := by omega
        clear hna ho hb
        by_cases hlt : k < ps.length
        · obtain ⟨b, off, rfl, hbl, hc⟩ := row_at HV.out hlt
          have hck := (HB.out.cell (p := ⟨b, off + k, none⟩) hbl).trans hc
          have HNo := hid (fun h => HNA.out.none hlt h)
          have HSt := hid (fun n h => HNA.out.step (n := n) hlt h)
          have hpl : (ps[k]'hlt).length ≤ 4000 := by have := HMem.out _ (List.getElem_mem hlt); have := HL4.out; omega
          have HK := hid hlt
          have k1 : (k : Int) < (ps.length : Int) := by omega
          clear hc
          generalize (ps[k]'hlt) = p at *
          have HC := hid (number_calls (strOf p))
          rw [str_data] at HC
          have HPS2 : Hid ((strOf p).size ≤ 100000) := by show p.length ≤ 100000; omega
          clear hpl hk hlt
          cases hn : numR p with
          | none =>
            have HX := hid (HForm2.out (HNo.out hn))
            unfold NumPost at HC
            rw [hn] at HC
            clear hn HNo HSt
            go_wp2_with fail
            refine (HC.out _ HPS2.out).mono ?_
            rintro e wz ⟨rfl, rfl⟩
            go_wp2_with fail
            go_ret2
            exact P4Post.mk HX.out (below_trans HB1.out HB.out)
          | some n =>
            have HN2 := hid (HSt.out n hn)
            have hnlt := numR_lt hn
            have n2 : (n : Int) ≤ 1099511627776 := by omega
            have n0 : (0 : Int) ≤ (n : Int) := by omega
            unfold NumPost at HC
            rw [hn] at HC
            simp only [Option.getD_some, Option.isSome_some] at HC
            obtain ⟨v', w2, hr, ho1, hg1⟩ := appendI_run (HO.out.alloc (.cells #[.int .i64 (n : Int)] 3)) (IOwn_one wr (n : Int)) (by rw [ints_len]; simp; omega) (by simp; omega)
            rw [← ints_snoc] at ho1
            have HO1 := hid ho1
            have HB2 := hid ((HB.out.alloc hsz _).grown hg1 (by simp; omega) (fun k hk => (World.ownsRow.lt HO.out k hk).1))
            clear hn HNo HSt ho1 hg1 hnlt hnl
            go_wp2_with fail
            refine (HC.out _ HPS2.out).mono ?_
            rintro e wz ⟨rfl, rfl⟩
            go_wp2_with (at_builtin; go_must (refine wpList_append_run hr rfl _ _ rfl rfl rfl rfl ?_))
            go_roundw
            case rel => exact ⟨k + 1, ns ++ [n], HK.out, by go_num, HN2.out, HO1.out, HB2.out⟩
            case measure => have := HK.out; simp [intOf]; omega
        · have k1 : ¬ (k : Int) < (ps.length : Int) := by omega
          have HNS0 := hid (HNA.out.done hlt)
          have hnl2 : ns.length = ps.length := by omega
          have HPL : Hid ((partsR s.data.toList).length = ns.length) := by show _ = _; rw [HPS.out]; exact hnl2.symm
          have HNS : Hid (numsR (partsR s.data.toList) = some ns) := by show _ = _; rw [HPS.out]; exact HNS0.out
          have HB2 := hid (below_trans HB1.out HB.out)
          have hrow := HO.out.row
          have HRow := hid hrow
          obtain ⟨ra, rcap, rfl, r1, r2, r3⟩ := hrow
          unfold maxLen at r2
          rw [ints_len] at r1 HRow ⊢
          have hne : ns ≠ [] := by intro e; rw [e] at hnl2; exact HNE.out (List.eq_nil_of_length_eq_zero hnl2.symm)
          have n5 : ns.length ≤ 4 := by omega
          have HNE2 := hid hne
          clear hlt hk r3 hnl hnl2 HNA HO HB hne HForm2 HNS0
          go_wp2_with fail
          go_loop [9, 10] (fun vs vi => ∃ (k acc : Nat), k ≤ ns.length ∧ vi = .int .i64 (k : Int) ∧ vs = .int .i64 (acc : Int) ∧ SumAt ns k acc) (fun _ vi => ns.length - (intOf vi).toNat)
          case atStart => exact ⟨0, 0, Nat.zero_le _, rfl, rfl, SumAt.start HNE2.out⟩
          case round =>
            obtain ⟨m, acc, hm, rfl, rfl, hsum⟩ := hrel
            have HSum := hid hsum
            have hacc : acc ≤ 17179869184 := by have := hsum.1; omega
            have c0 : (0 : Int) ≤ (acc : Int) := by omega
            have c1 : (acc : Int) ≤ 17179869184 := by omega
            have HEnd := hid (fun h => hsum.2.2 h)
            clear hsum hacc
            by_cases hlt : m < ns.length
            · obtain ⟨b, off, rfl, hbl, hc⟩ := row_at HRow.out (k := m) (by rw [ints_len]; exact hlt)
              have hxe : (ints ns)[m]'(by rw [ints_len]; exact hlt) = ((ns[m]'hlt : Nat) : Int) := by simp [ints]
              rw [hxe] at hc
              obtain ⟨x, hx⟩ : ∃ x, ns[m]'hlt = x := ⟨_, rfl⟩
              rw [hx] at hc
              have hxl : x ≤ 1099511627776 := by rw [← hx]; exact nums_le HNS.out _ (List.getElem_mem hlt)
              have x1 : (x : Int) ≤ 1099511627776 := by omega
              have x0 : (0 : Int) ≤ (x : Int) := by omega
              clear hxe hxl hm HEnd
              by_cases hmore : m + 1 < ns.length
              · have hm3 : m = 0 ∨ m = 1 ∨ m = 2 := by omega
                have g1 : (m : Int) < (ns.length : Int) - 1 := by omega
                have g2 : (m : Int) < (ns.length : Int) := by omega
                rcases hm3 with rfl | rfl | rfl
                · rw [Nat.add_zero] at hc
                  by_cases h255 : 255 < x
                  · have HX := hid (parse4_range HL4.out (by rw [HPL.out]; omega) HNS.out (HSum.out.great (by omega) (by rw [hx]; exact h255)))
                    have x2 : (255 : Int) < (x : Int) := by omega
                    clear h255 hx
                    go_wp2_with fail
                    go_ret2
                    exact P4Post.mk HX.out HB2.out
                  · have HS2 := hid (HSum.out.step (by omega) hx h255 (m := 16777216) (by decide) (by decide))
                    have x2 : ¬ (255 : Int) < (x : Int) := by omega
                    clear h255 hx
                    go_wp2_with fail
                    go_round
                    case rel => exact ⟨1, acc + x * 16777216, by omega, rfl, by go_num, HS2.out⟩
                    case measure => simp [intOf]; omega
                · by_cases h255 : 255 < x
                  · have HX := hid (parse4_range HL4.out (by rw [HPL.out]; omega) HNS.out (HSum.out.great (by omega) (by rw [hx]; exact h255)))
                    have x2 : (255 : Int) < (x : Int) := by omega
                    clear h255 hx
                    go_wp2_with fail
                    go_ret2
                    exact P4Post.mk HX.out HB2.out
                  · have HS2 := hid (HSum.out.step (by omega) hx h255 (m := 65536) (by decide) (by decide))
                    have x2 : ¬ (255 : Int) < (x : Int) := by omega
                    clear h255 hx
                    go_wp2_with fail
                    go_round
                    case rel => exact ⟨2, acc + x * 65536, by omega, rfl, by go_num, HS2.out⟩
                    case measure => simp [intOf]; omega
                · by_cases h255 : 255 < x
                  · have HX := hid (parse4_range HL4.out (by rw [HPL.out]; omega) HNS.out (HSum.out.great (by omega) (by rw [hx]; exact h255)))
                    have x2 : (255 : Int) < (x : Int) := by omega
                    clear h255 hx
                    go_wp2_with fail
                    go_ret2
                    exact P4Post.mk HX.out HB2.out
                  · have HS2 := hid (HSum.out.step (by omega) hx h255 (m := 256) (by decide) (by decide))
                    have x2 : ¬ (255 : Int) < (x : Int) := by omega
                    clear h255 hx
                    go_wp2_with fail
                    go_round
                    case rel => exact ⟨3, acc + x * 256, by omega, rfl, by go_num, HS2.out⟩
                    case measure => simp [intOf]; omega
              · have hm4 : ns.length = m + 1 := by omega
                have hm3 : m = 0 ∨ m = 1 ∨ m = 2 ∨ m = 3 := by omega
                have g1 : ¬ (m : Int) < (ns.length : Int) - 1 := by omega
                have g2 : (m : Int) < (ns.length : Int) := by omega
                have g3 : (5 : Int) - (ns.length : Int) = 4 - (m : Int) := by omega
                rcases hm3 with rfl | rfl | rfl | rfl
                · rw [Nat.add_zero] at hc
                  by_cases hd : x / 4294967296 = 0
                  · have HS2 := hid (HSum.out.last (by omega) hx (m := 4294967296) (by decide) (by decide) (by decide) hd)
                    have x2 : (x : Int) / 4294967296 = 0 := by omega
                    clear hd hx
                    go_wp2_with fail
                    go_round
                    case rel => exact ⟨1, acc + x, by omega, rfl, by go_num, HS2.out⟩
                    case measure => (try simp [intOf]) <;> (try omega)
                  · have HX := hid (parse4_range HL4.out (by rw [HPL.out]; omega) HNS.out (HSum.out.over (by omega) hx (m := 4294967296) (by decide) hd))
                    obtain ⟨y, hy⟩ : ∃ y : Nat, (x : Int) / 4294967296 = (y : Int) := ⟨x / 4294967296, by omega⟩
                    have x2 : (0 : Int) < (y : Int) := by omega
                    clear hd hx
                    go_wp2_with fail
                    go_ret2
                    exact P4Post.mk HX.out HB2.out
                · by_cases hd : x / 16777216 = 0
                  · have HS2 := hid (HSum.out.last (by omega) hx (m := 16777216) (by decide) (by decide) (by decide) hd)
                    have x2 : (x : Int) / 16777216 = 0 := by omega
                    clear hd hx
                    go_wp2_with fail
                    go_round
                    case rel => exact ⟨2, acc + x, by omega, rfl, by go_num, HS2.out⟩
                    case measure => (try simp [intOf]) <;> (try omega)
                  · have HX := hid (parse4_range HL4.out (by rw [HPL.out]; omega) HNS.out (HSum.out.over (by omega) hx (m := 16777216) (by decide) hd))
                    obtain ⟨y, hy⟩ : ∃ y : Nat, (x : Int) / 16777216 = (y : Int) := ⟨x / 16777216, by omega⟩
                    have x2 : (0 : Int) < (y : Int) := by omega
                    clear hd hx
                    go_wp2_with fail
                    go_ret2
                    exact P4Post.mk HX.out HB2.out
                · by_cases hd : x / 65536 = 0
                  · have HS2 := hid (HSum.out.last (by omega) hx (m := 65536) (by decide) (by decide) (by decide) hd)
                    have x2 : (x : Int) / 65536 = 0 := by omega
                    clear hd hx
                    go_wp2_with fail
                    go_round
                    case rel => exact ⟨3, acc + x, by omega, rfl, by go_num, HS2.out⟩
                    case measure => (try simp [intOf]) <;> (try omega)
                  · have HX := hid (parse4_range HL4.out (by rw [HPL.out]; omega) HNS.out (HSum.out.over (by omega) hx (m := 65536) (by decide) hd))
                    obtain ⟨y, hy⟩ : ∃ y : Nat, (x : Int) / 65536 = (y : Int) := ⟨x / 65536, by omega⟩
                    have x2 : (0 : Int) < (y : Int) := by omega
                    clear hd hx
                    go_wp2_with fail
                    go_ret2
                    exact P4Post.mk HX.out HB2.out
                · by_cases hd : x / 256 = 0
                  · have HS2 := hid (HSum.out.last (by omega) hx (m := 256) (by decide) (by decide) (by decide) hd)
                    have x2 : (x : Int) / 256 = 0 := by omega
                    clear hd hx
                    go_wp2_with fail
                    go_round
                    case rel => exact ⟨4, acc + x, by omega, rfl, by go_num, HS2.out⟩
                    case measure => (try simp [intOf]) <;> (try omega)
                  · have HX := hid (parse4_range HL4.out (by rw [HPL.out]; omega) HNS.out (HSum.out.over (by omega) hx (m := 256) (by decide) hd))
                    obtain ⟨y, hy⟩ : ∃ y : Nat, (x : Int) / 256 = (y : Int) := ⟨x / 256, by omega⟩
                    have x2 : (0 : Int) < (y : Int) := by omega
                    clear hd hx
                    go_wp2_with fail
                    go_ret2
                    exact P4Post.mk HX.out HB2.out
            · have g1 : ¬ (m : Int) < (ns.length : Int) := by omega
              have hs4 := HEnd.out (by omega)
              have HX := hid (parse4_ok HL4.out (by rw [HPL.out]; omega) HNS.out hs4)
              have ha := sum4_lt ns 0 0 acc HNE2.out (by omega) (by decide) hs4
              have c2 : (acc : Int) < 4294967296 := by omega
              clear hs4 ha hlt hm HEnd c1
              go_wp2_with fail
              go_ret2
              exact P4Post.mk HX.out HB2.out
end Go.Proofs.YtghhdccnocpobaaDoor
