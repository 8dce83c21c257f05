/- The program's readDecimal. -/
import Derived.Test.YtghhdccnocpobaaDoorIpWp
namespace Go.Proofs.YtghhdccnocpobaaDoor
open Go.RowKit
set_option linter.unusedVariables false
set_option maxRecDepth 20000
set_option linter.unusedSimpArgs false
theorem or16 (x d : Nat) (hx : x < 256) (hd : d < 256) : bits .or .u16 ((x : Int) * 256) (d : Int) = ((x * 256 + d : Nat) : Int) := by
  have h := (bits_nat .u16 16 (by decide) (fun n h0 h1 => by rw [IntKind.wrap_u16]; omega) (x * 256) d (by omega) (by omega)).2
  rw [show ((x : Int) * 256) = ((x * 256 : Nat) : Int) by omega, h]
  have e := Nat.two_pow_add_eq_or_of_lt (show d < 2 ^ 8 by omega) x
  rw [show 2 ^ 8 * x = x * 256 by omega] at e
  rw [← e]
theorem or16z (d : Nat) (hd : d < 256) : bits .or .u16 0 (d : Int) = (d : Int) := by
  have := or16 0 d (by omega) hd
  simpa using this
theorem bad_oct {q : List UInt8} (h : q = [] ∨ (1 < q.length ∧ q.head? = some 48) ∨ digsR 10 q = false ∨ 255 < satR 10 q) : octR q = none := by rw [oct_prog, if_pos h]
theorem good_oct {q : List UInt8} (h1 : q ≠ []) (h2 : ¬ (1 < q.length ∧ q.head? = some 48)) (h3 : digsR 10 q = true) (h4 : ¬ 255 < satR 10 q) : octR q = some (satR 10 q) := by
  rw [oct_prog, if_neg]
  rintro (h | h | h | h)
  · exact h1 h
  · exact h2 h
  · rw [h3] at h; cases h
  · exact h4 h
/-- The two pieces so far. -/
def pD : List Nat → Nat × Nat
  | [a] => (a, 0)
  | [a, b] => (a * 256 + b, 0)
  | [a, b, c] => (a * 256 + b, c)
  | [a, b, c, d] => (a * 256 + b, c * 256 + d)
  | _ => (0, 0)
def cellsD (vs : List Nat) : List Value := [.int .u16 ((pD vs).1 : Int), .int .u16 ((pD vs).2 : Int), .int .u16 0, .int .u16 0, .int .u16 0, .int .u16 0, .int .u16 0, .int .u16 0, .int .i64 2]
theorem start9 (w : World) : Bk9 (w.alloc (.cells #[.int .u16 0, .int .u16 0, .int .u16 0, .int .u16 0, .int .u16 0, .int .u16 0, .int .u16 0, .int .u16 0, .int .i64 2] 78)) w.heap.size (cellsD []) := heap_alloc_new w _
theorem len_0 {vs : List Nat} (h : vs.length = 0) : vs = [] := List.eq_nil_of_length_eq_zero h
theorem len_1 {vs : List Nat} (h : vs.length = 1) : ∃ a, vs = [a] := by match vs, h with | [a], _ => exact ⟨a, rfl⟩
theorem len_2 {vs : List Nat} (h : vs.length = 2) : ∃ a b, vs = [a, b] := by match vs, h with | [a, b], _ => exact ⟨a, b, rfl⟩
theorem len_3 {vs : List Nat} (h : vs.length = 3) : ∃ a b c, vs = [a, b, c] := by match vs, h with | [a, b, c], _ => exact ⟨a, b, c, rfl⟩

set_option maxHeartbeats 16000000 in
theorem pdec_calls (s : ByteArray) (w : World) (hs : s.size ≤ 100000) : Calls Tryd.prog 67 #[.string s] w fun e w' => RPost (fourR s.data.toList) w e w' := by
  have HS := hid hs
  have HZ := hid (zero9_world w)
  have HB0 := hid ((Below.refl w.heap.size w).alloc (Nat.le_refl _) (.cells #[.int .u16 0, .int .u16 0, .int .u16 0, .int .u16 0, .int .u16 0, .int .u16 0, .int .u16 0, .int .u16 0, .int .i64 0] 78))
  have HLen : Hid (∀ q ∈ splitR 46 s.data.toList, q.length ≤ 100000) := fun q h => by have h' := mem_split s.data.toList [] q h; rw [bytes_num, List.length_nil, Nat.zero_add] at h'; omega
  clear hs
  go_enter Tryd.func67, Tryd.ntmps67
  go_wp2_with fail
  refine (psplit_calls s _ (by have := HS.out; omega)).mono ?_
  rintro e w1 ⟨⟨v, rfl, hv⟩, hb⟩
  have HZ1 := hid (HZ.out.below hb)
  have HB1 := hid (below_trans HB0.out hb)
  have HV := hid hv
  have HFB := hid (four_bad (p := s.data.toList))
  have HFN := hid (four_none (p := s.data.toList))
  have HFS := hid (fun a b c d : Nat => four_some (p := s.data.toList) (a := a) (b := b) (c := c) (d := d))
  clear HZ HB0 hb
  obtain ⟨G, hG⟩ : ∃ G, w.heap.size = G := ⟨_, rfl⟩
  have HGl : Hid (w.heap.size ≤ G) := Nat.le_of_eq hG
  rw [hG] at HZ1 ⊢
  have HGs : Hid (G < w1.heap.size) := HZ1.out.lt
  clear hG
  generalize splitR 46 s.data.toList = qs at *
  obtain ⟨a, cap, rfl, h1, h2, h3⟩ := hv
  unfold maxLen at h2
  clear h3
  by_cases h4 : qs.length = 4
  · have n1 : ((qs.length : Int) == 4) = true := by rw [beq_iff_eq]; omega
    have n2 : ((qs.length : Int) != 4) = false := by rw [bne_eq_false_iff_eq]; omega
    have H4 := hid h4
    have HBk0 := hid (start9 w1)
    have HBa := hid ((Below.refl w1.heap.size w1).alloc (Nat.le_refl _) (.cells #[.int .u16 0, .int .u16 0, .int .u16 0, .int .u16 0, .int .u16 0, .int .u16 0, .int .u16 0, .int .u16 0, .int .i64 2] 78))
    clear h1 h2 h4
    go_wp2_with fail
    clear n1 n2
    go_loopw [20] (fun i wr => ∃ (k : Nat) (vs : List Nat), k ≤ 4 ∧ i = .int .i64 (k : Int) ∧ OctAt qs k vs ∧ Bk9 wr w1.heap.size (cellsD vs) ∧ Below w1.heap.size w1 wr) (fun i _ => 4 - (intOf i).toNat)
    case atStart => exact ⟨0, [], by omega, rfl, OctAt.start qs, HBk0.out, HBa.out⟩
    case round =>
      obtain ⟨k, vs, hk, rfl, hoc, hbk, hb⟩ := hrel
      have HOC := hid hoc
      have HBk := hid hbk
      have HB := hid hb
      have hsz := hid hb.size
      have k0 : (0 : Int) ≤ (k : Int) := by omega
      have HZr := hid (HZ1.out.below hb)
      have HBw := hid (below_trans HB1.out hb)
      clear hoc hbk hb HBk0 HBa
      by_cases hlt : k < 4
      · have hlq : k < qs.length := by have := H4.out; omega
        obtain ⟨b, off, rfl, hbl, hc⟩ := row_at HV.out hlq
        have hck := (HB.out.cell (p := ⟨b, off + k, none⟩) hbl).trans hc
        have HNo := hid (fun h => HFN.out (HOC.out.none hlq h))
        have HSt := hid (fun n h => HOC.out.step (n := n) hlq h)
        have hpl : (qs[k]'hlq).length ≤ 100000 := HLen.out _ (List.getElem_mem hlq)
        have HK := hid hlt
        have k1 : (k : Int) < (qs.length : Int) := by omega
        clear hc hbl
        generalize (qs[k]'hlq) = p at *
        obtain ⟨t, ht⟩ : ∃ t, strOf p = t := ⟨_, rfl⟩
        have hck2 : wr.cell? ⟨b, off + k, none⟩ = some (.string t) := by rw [hck, ← ht]
        have htp : t.data.toList = p := by rw [← ht]; rfl
        have HTS : Hid (t.size ≤ 100000) := by show _ ≤ _; rw [← ht]; exact hpl
        have HC := hid (fun w => pnumber_calls t 10 w HTS.out (by decide) (by decide))
        unfold NPost at HC
        rw [htp] at HC
        have HTN : Hid (t.size = p.length) := by show _ = _; rw [← ht]; rfl
        have HHead : Hid (∀ hp : 0 < t.size, p.head? = some (t[0]'hp)) := fun hp => by rw [← htp]; exact head_at hp
        have ck := hid hck2
        clear hck ht htp hpl hlq hlt hk
        by_cases h0 : t.size = 0
        · have hp0 : p = [] := List.eq_nil_of_length_eq_zero (by rw [← HTN.out]; exact h0)
          subst hp0
          have HX := hid (HNo.out (bad_oct (.inl rfl)))
          have e0 := empty_yes h0
          have HC1 : Hid (numP 10 [] = (0, true)) := (by decide : numP 10 [] = (0, true))
          rw [HC1.out] at HC
          have s0 : (t.size : Int) = 0 := by omega
          have HBR := hid h0
          clear h0 HC1
          obtain ⟨⟨c0, c1, c2, c3, c4, c5, c6, c7, c8⟩, ⟨f0, f1, f2, f3, f4, f5, f6, f7, f8⟩⟩ := cells9 (y0 := .int .u16 0) (y1 := .int .u16 0) (y2 := .int .u16 0) (y3 := .int .u16 0) (y4 := .int .u16 0) (y5 := .int .u16 0) (y6 := .int .u16 0) (y7 := .int .u16 0) (y8 := .int .i64 0) HZr.out
          have HFill := hid (fill9 (y0 := .int .u16 0) (y1 := .int .u16 0) (y2 := .int .u16 0) (y3 := .int .u16 0) (y4 := .int .u16 0) (y5 := .int .u16 0) (y6 := .int .u16 0) (y7 := .int .u16 0) (y8 := .int .i64 0) HZr.out HBw.out HGl.out HBw.out.size (.int .u16 0) (.int .u16 0) (.int .u16 0) (.int .u16 0) (.int .u16 0) (.int .u16 0) (.int .u16 0) (.int .u16 0) (.int .i64 0))
          clear HSt HNo HBR
          go_wp2_with fail
          refine (HC.out _).mono ?_
          rintro e wz ⟨rfl, rfl⟩
          go_wp2_with fail
          generalize (((((((((wz.setCell ⟨G, 0, none⟩ (.int .u16 0)).setCell ⟨G, 1, none⟩ (.int .u16 0)).setCell ⟨G, 2, none⟩ (.int .u16 0)).setCell ⟨G, 3, none⟩ (.int .u16 0)).setCell ⟨G, 4, none⟩ (.int .u16 0)).setCell ⟨G, 5, none⟩ (.int .u16 0)).setCell ⟨G, 6, none⟩ (.int .u16 0)).setCell ⟨G, 7, none⟩ (.int .u16 0)).setCell ⟨G, 8, none⟩ (.int .i64 0)) = W9 at *
          obtain ⟨⟨g0, g1, g2, g3, g4, g5, g6, g7, g8⟩, -⟩ := cells9 HFill.out.1
          have HBL := hid HFill.out.2
          clear HFill c0 c1 c2 c3 c4 c5 c6 c7 c8 f0 f1 f2 f3 f4 f5 f6 f7 f8
          refine bodyPost_ret (by simp [results, Tryd.results67, go_sem, g0, g1, g2, g3, g4, g5, g6, g7, g8]; try rfl) rfl ?_
          exact RPost.no 0 0 0 0 0 0 0 0 0 (by decide) HX.out HBL.out
        · obtain ⟨e0, e1⟩ := empty_no h0
          have hp : 0 < t.size := by omega
          have hpne : p ≠ [] := fun e => h0 (by rw [HTN.out, e]; rfl)
          have p0 : (0 : Int) < (t.size : Int) := by omega
          replace HHead := hid (HHead.out hp)
          by_cases ho : 1 < t.size ∧ (t[0]'hp).toNat = 48
          · obtain ⟨ho1, ho2⟩ := ho
            have p1 : (1 : Int) < (t.size : Int) := by omega
            have q2 : (((t[0]'hp).toNat : Int) == 48) = true := by rw [ho2]; rfl
            have HX := hid (HNo.out (bad_oct (.inr (.inl ⟨by rw [← HTN.out]; exact ho1, by rw [HHead.out]; exact congrArg some (UInt8.toNat_inj.1 (by rw [ho2]; rfl))⟩))))
            generalize numP 10 p = r at *
            have HBR := hid ho1
            clear h0 ho1 hpne HHead
            obtain ⟨⟨c0, c1, c2, c3, c4, c5, c6, c7, c8⟩, ⟨f0, f1, f2, f3, f4, f5, f6, f7, f8⟩⟩ := cells9 (y0 := .int .u16 0) (y1 := .int .u16 0) (y2 := .int .u16 0) (y3 := .int .u16 0) (y4 := .int .u16 0) (y5 := .int .u16 0) (y6 := .int .u16 0) (y7 := .int .u16 0) (y8 := .int .i64 0) HZr.out
            have HFill := hid (fill9 (y0 := .int .u16 0) (y1 := .int .u16 0) (y2 := .int .u16 0) (y3 := .int .u16 0) (y4 := .int .u16 0) (y5 := .int .u16 0) (y6 := .int .u16 0) (y7 := .int .u16 0) (y8 := .int .i64 0) HZr.out HBw.out HGl.out HBw.out.size (.int .u16 0) (.int .u16 0) (.int .u16 0) (.int .u16 0) (.int .u16 0) (.int .u16 0) (.int .u16 0) (.int .u16 0) (.int .i64 0))
            clear HSt HNo HBR
            go_wp2_with fail
            refine (HC.out _).mono ?_
            rintro e wz ⟨rfl, rfl⟩
            go_wp2_with fail
            generalize (((((((((wz.setCell ⟨G, 0, none⟩ (.int .u16 0)).setCell ⟨G, 1, none⟩ (.int .u16 0)).setCell ⟨G, 2, none⟩ (.int .u16 0)).setCell ⟨G, 3, none⟩ (.int .u16 0)).setCell ⟨G, 4, none⟩ (.int .u16 0)).setCell ⟨G, 5, none⟩ (.int .u16 0)).setCell ⟨G, 6, none⟩ (.int .u16 0)).setCell ⟨G, 7, none⟩ (.int .u16 0)).setCell ⟨G, 8, none⟩ (.int .i64 0)) = W9 at *
            obtain ⟨⟨g0, g1, g2, g3, g4, g5, g6, g7, g8⟩, -⟩ := cells9 HFill.out.1
            have HBL := hid HFill.out.2
            clear HFill c0 c1 c2 c3 c4 c5 c6 c7 c8 f0 f1 f2 f3 f4 f5 f6 f7 f8
            refine bodyPost_ret (by simp [results, Tryd.results67, go_sem, g0, g1, g2, g3, g4, g5, g6, g7, g8]; try rfl) rfl ?_
            exact RPost.no 0 0 0 0 0 0 0 0 0 (by decide) HX.out HBL.out
          · have HPad : Hid (¬ (1 < p.length ∧ p.head? = some 48)) := fun h => ho ⟨by rw [HTN.out]; exact h.1, by rw [HHead.out] at h; rw [Option.some.inj h.2]; rfl⟩
            have HNe := hid hpne
            have HNP := hid (@numP_yes 10 p)
            have HNN := hid (@numP_no 10 p)
            obtain ⟨z, hz⟩ : ∃ z, (t[0]'hp).toNat = z := ⟨_, rfl⟩
            by_cases h1 : 1 < t.size
            · have p1 : (1 : Int) < (t.size : Int) := by omega
              have hz48 : z ≠ 48 := fun e => ho ⟨h1, hz.trans e⟩
              have q2 : ((z : Int) == 48) = false := by rw [beq_eq_false_iff_ne]; omega
              have z0 : (0 : Int) ≤ (z : Int) := by omega
              clear ho h0 h1 hz48 hpne HHead
              cases hd : digsR 10 p with
              | false =>
                have HX := hid (HNo.out (bad_oct (.inr (.inr (.inl hd)))))
                rw [HNN.out hd] at HC
                have HBR := hid hd
                clear hd
                obtain ⟨⟨c0, c1, c2, c3, c4, c5, c6, c7, c8⟩, ⟨f0, f1, f2, f3, f4, f5, f6, f7, f8⟩⟩ := cells9 (y0 := .int .u16 0) (y1 := .int .u16 0) (y2 := .int .u16 0) (y3 := .int .u16 0) (y4 := .int .u16 0) (y5 := .int .u16 0) (y6 := .int .u16 0) (y7 := .int .u16 0) (y8 := .int .i64 0) HZr.out
                have HFill := hid (fill9 (y0 := .int .u16 0) (y1 := .int .u16 0) (y2 := .int .u16 0) (y3 := .int .u16 0) (y4 := .int .u16 0) (y5 := .int .u16 0) (y6 := .int .u16 0) (y7 := .int .u16 0) (y8 := .int .i64 0) HZr.out HBw.out HGl.out HBw.out.size (.int .u16 0) (.int .u16 0) (.int .u16 0) (.int .u16 0) (.int .u16 0) (.int .u16 0) (.int .u16 0) (.int .u16 0) (.int .i64 0))
                clear HSt HNo HBR
                go_wp2_with fail
                refine (HC.out _).mono ?_
                rintro e wz ⟨rfl, rfl⟩
                go_wp2_with fail
                generalize (((((((((wz.setCell ⟨G, 0, none⟩ (.int .u16 0)).setCell ⟨G, 1, none⟩ (.int .u16 0)).setCell ⟨G, 2, none⟩ (.int .u16 0)).setCell ⟨G, 3, none⟩ (.int .u16 0)).setCell ⟨G, 4, none⟩ (.int .u16 0)).setCell ⟨G, 5, none⟩ (.int .u16 0)).setCell ⟨G, 6, none⟩ (.int .u16 0)).setCell ⟨G, 7, none⟩ (.int .u16 0)).setCell ⟨G, 8, none⟩ (.int .i64 0)) = W9 at *
                obtain ⟨⟨g0, g1, g2, g3, g4, g5, g6, g7, g8⟩, -⟩ := cells9 HFill.out.1
                have HBL := hid HFill.out.2
                clear HFill c0 c1 c2 c3 c4 c5 c6 c7 c8 f0 f1 f2 f3 f4 f5 f6 f7 f8
                refine bodyPost_ret (by simp [results, Tryd.results67, go_sem, g0, g1, g2, g3, g4, g5, g6, g7, g8]; try rfl) rfl ?_
                exact RPost.no 0 0 0 0 0 0 0 0 0 (by decide) HX.out HBL.out
              | true =>
                rw [HNP.out hd] at HC
                obtain ⟨n, hn⟩ : ∃ n, satR 10 p = n := ⟨_, rfl⟩
                have HGo := hid (fun h => good_oct (q := p) HNe.out HPad.out hd h)
                have HGr := hid (fun h => bad_oct (q := p) (.inr (.inr (.inr h))))
                rw [hn] at HC HGo HGr
                simp only at HC
                by_cases hg : 255 < n
                · have HX := hid (HNo.out (HGr.out hg))
                  have g1 : (255 : Int) < (n : Int) := by omega
                  have HBR := hid hd
                  clear hd hn hg
                  obtain ⟨⟨c0, c1, c2, c3, c4, c5, c6, c7, c8⟩, ⟨f0, f1, f2, f3, f4, f5, f6, f7, f8⟩⟩ := cells9 (y0 := .int .u16 0) (y1 := .int .u16 0) (y2 := .int .u16 0) (y3 := .int .u16 0) (y4 := .int .u16 0) (y5 := .int .u16 0) (y6 := .int .u16 0) (y7 := .int .u16 0) (y8 := .int .i64 0) HZr.out
                  have HFill := hid (fill9 (y0 := .int .u16 0) (y1 := .int .u16 0) (y2 := .int .u16 0) (y3 := .int .u16 0) (y4 := .int .u16 0) (y5 := .int .u16 0) (y6 := .int .u16 0) (y7 := .int .u16 0) (y8 := .int .i64 0) HZr.out HBw.out HGl.out HBw.out.size (.int .u16 0) (.int .u16 0) (.int .u16 0) (.int .u16 0) (.int .u16 0) (.int .u16 0) (.int .u16 0) (.int .u16 0) (.int .i64 0))
                  clear HSt HNo HBR
                  go_wp2_with fail
                  refine (HC.out _).mono ?_
                  rintro e wz ⟨rfl, rfl⟩
                  go_wp2_with fail
                  generalize (((((((((wz.setCell ⟨G, 0, none⟩ (.int .u16 0)).setCell ⟨G, 1, none⟩ (.int .u16 0)).setCell ⟨G, 2, none⟩ (.int .u16 0)).setCell ⟨G, 3, none⟩ (.int .u16 0)).setCell ⟨G, 4, none⟩ (.int .u16 0)).setCell ⟨G, 5, none⟩ (.int .u16 0)).setCell ⟨G, 6, none⟩ (.int .u16 0)).setCell ⟨G, 7, none⟩ (.int .u16 0)).setCell ⟨G, 8, none⟩ (.int .i64 0)) = W9 at *
                  obtain ⟨⟨g0, g1, g2, g3, g4, g5, g6, g7, g8⟩, -⟩ := cells9 HFill.out.1
                  have HBL := hid HFill.out.2
                  clear HFill c0 c1 c2 c3 c4 c5 c6 c7 c8 f0 f1 f2 f3 f4 f5 f6 f7 f8
                  refine bodyPost_ret (by simp [results, Tryd.results67, go_sem, g0, g1, g2, g3, g4, g5, g6, g7, g8]; try rfl) rfl ?_
                  exact RPost.no 0 0 0 0 0 0 0 0 0 (by decide) HX.out HBL.out
                · have HSt2 := hid (HSt.out n (HGo.out hg))
                  have g1 : ¬ (255 : Int) < (n : Int) := by omega
                  have g0 : (0 : Int) ≤ (n : Int) := by omega
                  have g2 : IntKind.wrap .u16 (n : Int) = (n : Int) := wrap16 n (by omega)
                  have hlen := HOC.out.1
                  have hall := HOC.out.2.1
                  have hn256 : n < 256 := by omega
                  clear hd hn hg HSt HNo
                  rcases (by have := HK.out; omega : k = 0 ∨ k = 1 ∨ k = 2 ∨ k = 3) with hk0 | rfl | rfl | rfl
                  · obtain rfl := len_0 (hlen.trans hk0)
                    have kq : (k : Int) / 2 = 0 := by rw [hk0]; rfl
                    have HK0 := hid hk0
                    have o1 := or16z n hn256
                    obtain ⟨⟨c0, c1, -, -, -, -, -, -, -⟩, ⟨f0, f1, -, -, -, -, -, -, -⟩⟩ := cells9 HBk.out
                    have HSet : Hid (Bk9 (wr.setCell ⟨w1.heap.size, 0, none⟩ (.int .u16 ((n : Nat) : Int))) w1.heap.size (cellsD ([] ++ [n]))) := HBk.out.set 0 (.int .u16 ((n : Nat) : Int))
                    have HBs := hid (belowSet HB.out (Nat.le_refl _) hsz.out 0 (.int .u16 ((n : Nat) : Int)))
                    change wr.cell? ⟨w1.heap.size, 0, none⟩ = some (.int .u16 0) at c0
                    clear c1 f1 HBk hk0
                    clear hall hlen hn256 
                    go_wp2_with fail
                    refine (HC.out _).mono ?_
                    rintro e wz ⟨rfl, rfl⟩
                    go_wp2_with fail
                    go_roundw
                    case rel => exact ⟨k + 1, [] ++ [n], by have := HK0.out; omega, by go_num, HSt2.out, HSet.out, HBs.out⟩
                    case measure => have := HK0.out; simp [intOf]; omega
                  · obtain ⟨a, rfl⟩ := len_1 hlen
                    have ha : a ≤ 255 := hall a (by simp)
                    have o1 := or16 a n (by omega) hn256
                    have v0 : (0 : Int) ≤ (a : Int) := by omega
                    have v1 : IntKind.wrap .u16 ((a : Int) * 256) = (a : Int) * 256 := by rw [IntKind.wrap_u16]; omega
                    obtain ⟨⟨c0, c1, -, -, -, -, -, -, -⟩, ⟨f0, f1, -, -, -, -, -, -, -⟩⟩ := cells9 HBk.out
                    have HSet : Hid (Bk9 (wr.setCell ⟨w1.heap.size, 0, none⟩ (.int .u16 ((a * 256 + n : Nat) : Int))) w1.heap.size (cellsD ([a] ++ [n]))) := HBk.out.set 0 (.int .u16 ((a * 256 + n : Nat) : Int))
                    have HBs := hid (belowSet HB.out (Nat.le_refl _) hsz.out 0 (.int .u16 ((a * 256 + n : Nat) : Int)))
                    generalize a * 256 + n = m at *
                    unfold pD at c0 c1
                    clear hall hlen hn256 ha
                    go_wp2_with fail
                    refine (HC.out _).mono ?_
                    rintro e wz ⟨rfl, rfl⟩
                    go_wp2_with fail
                    go_roundw
                    case rel => exact ⟨2, [a] ++ [n], by omega, by go_num, HSt2.out, HSet.out, HBs.out⟩
                    case measure => simp [intOf]
                  · obtain ⟨a, b, rfl⟩ := len_2 hlen
                    have ha : a ≤ 255 := hall a (by simp)
                    have hb : b ≤ 255 := hall b (by simp)
                    have o1 := or16z n hn256
                    obtain ⟨⟨c0, c1, -, -, -, -, -, -, -⟩, ⟨f0, f1, -, -, -, -, -, -, -⟩⟩ := cells9 HBk.out
                    have HSet : Hid (Bk9 (wr.setCell ⟨w1.heap.size, 1, none⟩ (.int .u16 ((n : Nat) : Int))) w1.heap.size (cellsD ([a, b] ++ [n]))) := HBk.out.set 1 (.int .u16 ((n : Nat) : Int))
                    have HBs := hid (belowSet HB.out (Nat.le_refl _) hsz.out 1 (.int .u16 ((n : Nat) : Int)))
                    unfold pD at c0 c1
                    clear hall hlen hn256 ha hb
                    go_wp2_with fail
                    refine (HC.out _).mono ?_
                    rintro e wz ⟨rfl, rfl⟩
                    go_wp2_with fail
                    go_roundw
                    case rel => exact ⟨3, [a, b] ++ [n], by omega, by go_num, HSt2.out, HSet.out, HBs.out⟩
                    case measure => simp [intOf]
                  · obtain ⟨a, b, c, rfl⟩ := len_3 hlen
                    have ha : a ≤ 255 := hall a (by simp)
                    have hb : b ≤ 255 := hall b (by simp)
                    have hc : c ≤ 255 := hall c (by simp)
                    have o1 := or16 c n (by omega) hn256
                    have v0 : (0 : Int) ≤ (c : Int) := by omega
                    have v1 : IntKind.wrap .u16 ((c : Int) * 256) = (c : Int) * 256 := by rw [IntKind.wrap_u16]; omega
                    obtain ⟨⟨c0, c1, -, -, -, -, -, -, -⟩, ⟨f0, f1, -, -, -, -, -, -, -⟩⟩ := cells9 HBk.out
                    have HSet : Hid (Bk9 (wr.setCell ⟨w1.heap.size, 1, none⟩ (.int .u16 ((c * 256 + n : Nat) : Int))) w1.heap.size (cellsD ([a, b, c] ++ [n]))) := HBk.out.set 1 (.int .u16 ((c * 256 + n : Nat) : Int))
                    have HBs := hid (belowSet HB.out (Nat.le_refl _) hsz.out 1 (.int .u16 ((c * 256 + n : Nat) : Int)))
                    generalize c * 256 + n = m at *
                    unfold pD at c0 c1
                    clear hall hlen hn256 ha hb hc
                    go_wp2_with fail
                    refine (HC.out _).mono ?_
                    rintro e wz ⟨rfl, rfl⟩
                    go_wp2_with fail
                    go_roundw
                    case rel => exact ⟨4, [a, b, c] ++ [n], by omega, by go_num, HSt2.out, HSet.out, HBs.out⟩
                    case measure => simp [intOf]
            · have p1 : ¬ (1 : Int) < (t.size : Int) := by omega
              clear ho h0 h1 hpne HHead
              cases hd : digsR 10 p with
              | false =>
                have HX := hid (HNo.out (bad_oct (.inr (.inr (.inl hd)))))
                rw [HNN.out hd] at HC
                have HBR := hid hd
                clear hd
                obtain ⟨⟨c0, c1, c2, c3, c4, c5, c6, c7, c8⟩, ⟨f0, f1, f2, f3, f4, f5, f6, f7, f8⟩⟩ := cells9 (y0 := .int .u16 0) (y1 := .int .u16 0) (y2 := .int .u16 0) (y3 := .int .u16 0) (y4 := .int .u16 0) (y5 := .int .u16 0) (y6 := .int .u16 0) (y7 := .int .u16 0) (y8 := .int .i64 0) HZr.out
                have HFill := hid (fill9 (y0 := .int .u16 0) (y1 := .int .u16 0) (y2 := .int .u16 0) (y3 := .int .u16 0) (y4 := .int .u16 0) (y5 := .int .u16 0) (y6 := .int .u16 0) (y7 := .int .u16 0) (y8 := .int .i64 0) HZr.out HBw.out HGl.out HBw.out.size (.int .u16 0) (.int .u16 0) (.int .u16 0) (.int .u16 0) (.int .u16 0) (.int .u16 0) (.int .u16 0) (.int .u16 0) (.int .i64 0))
                clear HSt HNo HBR
                go_wp2_with fail
                refine (HC.out _).mono ?_
                rintro e wz ⟨rfl, rfl⟩
                go_wp2_with fail
                generalize (((((((((wz.setCell ⟨G, 0, none⟩ (.int .u16 0)).setCell ⟨G, 1, none⟩ (.int .u16 0)).setCell ⟨G, 2, none⟩ (.int .u16 0)).setCell ⟨G, 3, none⟩ (.int .u16 0)).setCell ⟨G, 4, none⟩ (.int .u16 0)).setCell ⟨G, 5, none⟩ (.int .u16 0)).setCell ⟨G, 6, none⟩ (.int .u16 0)).setCell ⟨G, 7, none⟩ (.int .u16 0)).setCell ⟨G, 8, none⟩ (.int .i64 0)) = W9 at *
                obtain ⟨⟨g0, g1, g2, g3, g4, g5, g6, g7, g8⟩, -⟩ := cells9 HFill.out.1
                have HBL := hid HFill.out.2
                clear HFill c0 c1 c2 c3 c4 c5 c6 c7 c8 f0 f1 f2 f3 f4 f5 f6 f7 f8
                refine bodyPost_ret (by simp [results, Tryd.results67, go_sem, g0, g1, g2, g3, g4, g5, g6, g7, g8]; try rfl) rfl ?_
                exact RPost.no 0 0 0 0 0 0 0 0 0 (by decide) HX.out HBL.out
              | true =>
                rw [HNP.out hd] at HC
                obtain ⟨n, hn⟩ : ∃ n, satR 10 p = n := ⟨_, rfl⟩
                have HGo := hid (fun h => good_oct (q := p) HNe.out HPad.out hd h)
                have HGr := hid (fun h => bad_oct (q := p) (.inr (.inr (.inr h))))
                rw [hn] at HC HGo HGr
                simp only at HC
                by_cases hg : 255 < n
                · have HX := hid (HNo.out (HGr.out hg))
                  have g1 : (255 : Int) < (n : Int) := by omega
                  have HBR := hid hd
                  clear hd hn hg
                  obtain ⟨⟨c0, c1, c2, c3, c4, c5, c6, c7, c8⟩, ⟨f0, f1, f2, f3, f4, f5, f6, f7, f8⟩⟩ := cells9 (y0 := .int .u16 0) (y1 := .int .u16 0) (y2 := .int .u16 0) (y3 := .int .u16 0) (y4 := .int .u16 0) (y5 := .int .u16 0) (y6 := .int .u16 0) (y7 := .int .u16 0) (y8 := .int .i64 0) HZr.out
                  have HFill := hid (fill9 (y0 := .int .u16 0) (y1 := .int .u16 0) (y2 := .int .u16 0) (y3 := .int .u16 0) (y4 := .int .u16 0) (y5 := .int .u16 0) (y6 := .int .u16 0) (y7 := .int .u16 0) (y8 := .int .i64 0) HZr.out HBw.out HGl.out HBw.out.size (.int .u16 0) (.int .u16 0) (.int .u16 0) (.int .u16 0) (.int .u16 0) (.int .u16 0) (.int .u16 0) (.int .u16 0) (.int .i64 0))
                  clear HSt HNo HBR
                  go_wp2_with fail
                  refine (HC.out _).mono ?_
                  rintro e wz ⟨rfl, rfl⟩
                  go_wp2_with fail
                  generalize (((((((((wz.setCell ⟨G, 0, none⟩ (.int .u16 0)).setCell ⟨G, 1, none⟩ (.int .u16 0)).setCell ⟨G, 2, none⟩ (.int .u16 0)).setCell ⟨G, 3, none⟩ (.int .u16 0)).setCell ⟨G, 4, none⟩ (.int .u16 0)).setCell ⟨G, 5, none⟩ (.int .u16 0)).setCell ⟨G, 6, none⟩ (.int .u16 0)).setCell ⟨G, 7, none⟩ (.int .u16 0)).setCell ⟨G, 8, none⟩ (.int .i64 0)) = W9 at *
                  obtain ⟨⟨g0, g1, g2, g3, g4, g5, g6, g7, g8⟩, -⟩ := cells9 HFill.out.1
                  have HBL := hid HFill.out.2
                  clear HFill c0 c1 c2 c3 c4 c5 c6 c7 c8 f0 f1 f2 f3 f4 f5 f6 f7 f8
                  refine bodyPost_ret (by simp [results, Tryd.results67, go_sem, g0, g1, g2, g3, g4, g5, g6, g7, g8]; try rfl) rfl ?_
                  exact RPost.no 0 0 0 0 0 0 0 0 0 (by decide) HX.out HBL.out
                · have HSt2 := hid (HSt.out n (HGo.out hg))
                  have g1 : ¬ (255 : Int) < (n : Int) := by omega
                  have g0 : (0 : Int) ≤ (n : Int) := by omega
                  have g2 : IntKind.wrap .u16 (n : Int) = (n : Int) := wrap16 n (by omega)
                  have hlen := HOC.out.1
                  have hall := HOC.out.2.1
                  have hn256 : n < 256 := by omega
                  clear hd hn hg HSt HNo
                  rcases (by have := HK.out; omega : k = 0 ∨ k = 1 ∨ k = 2 ∨ k = 3) with hk0 | rfl | rfl | rfl
                  · obtain rfl := len_0 (hlen.trans hk0)
                    have kq : (k : Int) / 2 = 0 := by rw [hk0]; rfl
                    have HK0 := hid hk0
                    have o1 := or16z n hn256
                    obtain ⟨⟨c0, c1, -, -, -, -, -, -, -⟩, ⟨f0, f1, -, -, -, -, -, -, -⟩⟩ := cells9 HBk.out
                    have HSet : Hid (Bk9 (wr.setCell ⟨w1.heap.size, 0, none⟩ (.int .u16 ((n : Nat) : Int))) w1.heap.size (cellsD ([] ++ [n]))) := HBk.out.set 0 (.int .u16 ((n : Nat) : Int))
                    have HBs := hid (belowSet HB.out (Nat.le_refl _) hsz.out 0 (.int .u16 ((n : Nat) : Int)))
                    change wr.cell? ⟨w1.heap.size, 0, none⟩ = some (.int .u16 0) at c0
                    clear c1 f1 HBk hk0
                    clear hall hlen hn256 
                    go_wp2_with fail
                    refine (HC.out _).mono ?_
                    rintro e wz ⟨rfl, rfl⟩
                    go_wp2_with fail
                    go_roundw
                    case rel => exact ⟨k + 1, [] ++ [n], by have := HK0.out; omega, by go_num, HSt2.out, HSet.out, HBs.out⟩
                    case measure => have := HK0.out; simp [intOf]; omega
                  · obtain ⟨a, rfl⟩ := len_1 hlen
                    have ha : a ≤ 255 := hall a (by simp)
                    have o1 := or16 a n (by omega) hn256
                    have v0 : (0 : Int) ≤ (a : Int) := by omega
                    have v1 : IntKind.wrap .u16 ((a : Int) * 256) = (a : Int) * 256 := by rw [IntKind.wrap_u16]; omega
                    obtain ⟨⟨c0, c1, -, -, -, -, -, -, -⟩, ⟨f0, f1, -, -, -, -, -, -, -⟩⟩ := cells9 HBk.out
                    have HSet : Hid (Bk9 (wr.setCell ⟨w1.heap.size, 0, none⟩ (.int .u16 ((a * 256 + n : Nat) : Int))) w1.heap.size (cellsD ([a] ++ [n]))) := HBk.out.set 0 (.int .u16 ((a * 256 + n : Nat) : Int))
                    have HBs := hid (belowSet HB.out (Nat.le_refl _) hsz.out 0 (.int .u16 ((a * 256 + n : Nat) : Int)))
                    generalize a * 256 + n = m at *
                    unfold pD at c0 c1
                    clear hall hlen hn256 ha
                    go_wp2_with fail
                    refine (HC.out _).mono ?_
                    rintro e wz ⟨rfl, rfl⟩
                    go_wp2_with fail
                    go_roundw
                    case rel => exact ⟨2, [a] ++ [n], by omega, by go_num, HSt2.out, HSet.out, HBs.out⟩
                    case measure => simp [intOf]
                  · obtain ⟨a, b, rfl⟩ := len_2 hlen
                    have ha : a ≤ 255 := hall a (by simp)
                    have hb : b ≤ 255 := hall b (by simp)
                    have o1 := or16z n hn256
                    obtain ⟨⟨c0, c1, -, -, -, -, -, -, -⟩, ⟨f0, f1, -, -, -, -, -, -, -⟩⟩ := cells9 HBk.out
                    have HSet : Hid (Bk9 (wr.setCell ⟨w1.heap.size, 1, none⟩ (.int .u16 ((n : Nat) : Int))) w1.heap.size (cellsD ([a, b] ++ [n]))) := HBk.out.set 1 (.int .u16 ((n : Nat) : Int))
                    have HBs := hid (belowSet HB.out (Nat.le_refl _) hsz.out 1 (.int .u16 ((n : Nat) : Int)))
                    unfold pD at c0 c1
                    clear hall hlen hn256 ha hb
                    go_wp2_with fail
                    refine (HC.out _).mono ?_
                    rintro e wz ⟨rfl, rfl⟩
                    go_wp2_with fail
                    go_roundw
                    case rel => exact ⟨3, [a, b] ++ [n], by omega, by go_num, HSt2.out, HSet.out, HBs.out⟩
                    case measure => simp [intOf]
                  · obtain ⟨a, b, c, rfl⟩ := len_3 hlen
                    have ha : a ≤ 255 := hall a (by simp)
                    have hb : b ≤ 255 := hall b (by simp)
                    have hc : c ≤ 255 := hall c (by simp)
                    have o1 := or16 c n (by omega) hn256
                    have v0 : (0 : Int) ≤ (c : Int) := by omega
                    have v1 : IntKind.wrap .u16 ((c : Int) * 256) = (c : Int) * 256 := by rw [IntKind.wrap_u16]; omega
                    obtain ⟨⟨c0, c1, -, -, -, -, -, -, -⟩, ⟨f0, f1, -, -, -, -, -, -, -⟩⟩ := cells9 HBk.out
                    have HSet : Hid (Bk9 (wr.setCell ⟨w1.heap.size, 1, none⟩ (.int .u16 ((c * 256 + n : Nat) : Int))) w1.heap.size (cellsD ([a, b, c] ++ [n]))) := HBk.out.set 1 (.int .u16 ((c * 256 + n : Nat) : Int))
                    have HBs := hid (belowSet HB.out (Nat.le_refl _) hsz.out 1 (.int .u16 ((c * 256 + n : Nat) : Int)))
                    generalize c * 256 + n = m at *
                    unfold pD at c0 c1
                    clear hall hlen hn256 ha hb hc
                    go_wp2_with fail
                    refine (HC.out _).mono ?_
                    rintro e wz ⟨rfl, rfl⟩
                    go_wp2_with fail
                    go_roundw
                    case rel => exact ⟨4, [a, b, c] ++ [n], by omega, by go_num, HSt2.out, HSet.out, HBs.out⟩
                    case measure => simp [intOf]
      · have k1 : ¬ (k : Int) < (qs.length : Int) := by have := H4.out; omega
        obtain rfl : k = 4 := by omega
        have HOS := hid (HOC.out.done (by have := H4.out; omega))
        obtain ⟨a', b', c', d', rfl⟩ := four4 HOC.out.1
        have HX := hid (HFS.out a' b' c' d' H4.out HOS.out)
        obtain ⟨⟨d0, d1, d2, d3, d4, d5, d6, d7, d8⟩, -⟩ := cells9 HBk.out
        obtain ⟨⟨c0, c1, c2, c3, c4, c5, c6, c7, c8⟩, ⟨f0, f1, f2, f3, f4, f5, f6, f7, f8⟩⟩ := cells9 (y0 := .int .u16 0) (y1 := .int .u16 0) (y2 := .int .u16 0) (y3 := .int .u16 0) (y4 := .int .u16 0) (y5 := .int .u16 0) (y6 := .int .u16 0) (y7 := .int .u16 0) (y8 := .int .i64 0) HZr.out
        have HFill := hid (fill9 (y0 := .int .u16 0) (y1 := .int .u16 0) (y2 := .int .u16 0) (y3 := .int .u16 0) (y4 := .int .u16 0) (y5 := .int .u16 0) (y6 := .int .u16 0) (y7 := .int .u16 0) (y8 := .int .i64 0) HZr.out HBw.out HGl.out HBw.out.size (.int .u16 ((a' * 256 + b' : Nat) : Int)) (.int .u16 ((c' * 256 + d' : Nat) : Int)) (.int .u16 0) (.int .u16 0) (.int .u16 0) (.int .u16 0) (.int .u16 0) (.int .u16 0) (.int .i64 2))
        have HFin := hid (fun w' (hb : Below w.heap.size w w') => RPost.yes (w := w) (w' := w') (a' * 256 + b') (c' * 256 + d') 0 0 0 0 0 0 2 HX.out rfl (by decide) rfl hb)
        change wr.cell? ⟨w1.heap.size, 0, none⟩ = some (.int .u16 ((a' * 256 + b' : Nat) : Int)) at d0
        change wr.cell? ⟨w1.heap.size, 1, none⟩ = some (.int .u16 ((c' * 256 + d' : Nat) : Int)) at d1
        clear hlt hk HOS HX HOC
        generalize a' * 256 + b' = x0 at *
        generalize c' * 256 + d' = x1 at *
        go_wp2_with fail
        generalize (((((((((wr.setCell ⟨G, 0, none⟩ (.int .u16 ((x0 : Nat) : Int))).setCell ⟨G, 1, none⟩ (.int .u16 ((x1 : Nat) : Int))).setCell ⟨G, 2, none⟩ (.int .u16 0)).setCell ⟨G, 3, none⟩ (.int .u16 0)).setCell ⟨G, 4, none⟩ (.int .u16 0)).setCell ⟨G, 5, none⟩ (.int .u16 0)).setCell ⟨G, 6, none⟩ (.int .u16 0)).setCell ⟨G, 7, none⟩ (.int .u16 0)).setCell ⟨G, 8, none⟩ (.int .i64 2)) = W9 at *
        obtain ⟨⟨g0, g1, g2, g3, g4, g5, g6, g7, g8⟩, -⟩ := cells9 HFill.out.1
        have HBL := hid HFill.out.2
        clear HFill c0 c1 c2 c3 c4 c5 c6 c7 c8 f0 f1 f2 f3 f4 f5 f6 f7 f8
        refine bodyPost_ret (by simp [results, Tryd.results67, go_sem, g0, g1, g2, g3, g4, g5, g6, g7, g8]; try rfl) rfl ?_
        exact HFin.out _ HBL.out
  · have HX := hid (HFB.out h4)
    have n1 : ((qs.length : Int) == 4) = false := by rw [beq_eq_false_iff_ne]; omega
    have n2 : ((qs.length : Int) != 4) = true := by rw [bne_iff_ne]; omega
    have HBw := hid HB1.out
    obtain ⟨⟨c0, c1, c2, c3, c4, c5, c6, c7, c8⟩, ⟨f0, f1, f2, f3, f4, f5, f6, f7, f8⟩⟩ := cells9 (y0 := .int .u16 0) (y1 := .int .u16 0) (y2 := .int .u16 0) (y3 := .int .u16 0) (y4 := .int .u16 0) (y5 := .int .u16 0) (y6 := .int .u16 0) (y7 := .int .u16 0) (y8 := .int .i64 0) HZ1.out
    have HFill := hid (fill9 (y0 := .int .u16 0) (y1 := .int .u16 0) (y2 := .int .u16 0) (y3 := .int .u16 0) (y4 := .int .u16 0) (y5 := .int .u16 0) (y6 := .int .u16 0) (y7 := .int .u16 0) (y8 := .int .i64 0) HZ1.out HBw.out HGl.out HBw.out.size (.int .u16 0) (.int .u16 0) (.int .u16 0) (.int .u16 0) (.int .u16 0) (.int .u16 0) (.int .u16 0) (.int .u16 0) (.int .i64 0))
    clear h4
    go_wp2_with fail
    generalize (((((((((w1.setCell ⟨G, 0, none⟩ (.int .u16 0)).setCell ⟨G, 1, none⟩ (.int .u16 0)).setCell ⟨G, 2, none⟩ (.int .u16 0)).setCell ⟨G, 3, none⟩ (.int .u16 0)).setCell ⟨G, 4, none⟩ (.int .u16 0)).setCell ⟨G, 5, none⟩ (.int .u16 0)).setCell ⟨G, 6, none⟩ (.int .u16 0)).setCell ⟨G, 7, none⟩ (.int .u16 0)).setCell ⟨G, 8, none⟩ (.int .i64 0)) = W9 at *
    obtain ⟨⟨g0, g1, g2, g3, g4, g5, g6, g7, g8⟩, -⟩ := cells9 HFill.out.1
    have HBL := hid HFill.out.2
    clear HFill c0 c1 c2 c3 c4 c5 c6 c7 c8 f0 f1 f2 f3 f4 f5 f6 f7 f8
    refine bodyPost_ret (by simp [results, Tryd.results67, go_sem, g0, g1, g2, g3, g4, g5, g6, g7, g8]; try rfl) rfl ?_
    exact RPost.no 0 0 0 0 0 0 0 0 0 (by decide) HX.out HBL.out
end Go.Proofs.YtghhdccnocpobaaDoor
