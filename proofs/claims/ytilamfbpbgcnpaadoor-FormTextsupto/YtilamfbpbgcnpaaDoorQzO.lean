/- The program's Names. -/
import Derived.Test.YtilamfbpbgcnpaaDoorQzN
namespace Go.Proofs.YtilamfbpbgcnpaaDoor
open Go.RowKit Go.Shelf
set_option linter.unusedVariables false
set_option maxRecDepth 20000
set_option linter.unusedSimpArgs false
def namesR (l : List Pr) : List (List UInt8) := Lib.compact (sortR (l.map (·.1)))
/-- A store of what a cell holds changes nothing. -/
theorem set_same {w : World} {g k : Nat} {v : Value} (h : w.cell? ⟨g, k, none⟩ = some v) : w.setCell ⟨g, k, none⟩ v = w := by
  have hh : ∃ cur t fz, w.heap[g]? = some (.cells cur t fz) ∧ cur[k]? = some v := by
    unfold World.cell? at h
    cases ho : w.heap[g]? with
    | none => simp [ho] at h
    | some o => cases o <;> simp_all
  obtain ⟨cur, t, fz, hg, hk⟩ := hh
  obtain ⟨hlt, hgk⟩ := Array.getElem?_eq_some_iff.1 hg
  have hkl : k < cur.size := by
    rcases Nat.lt_or_ge k cur.size with h' | h'
    · exact h'
    · rw [Array.getElem?_eq_none h'] at hk; cases hk
  have hs : cur.setIfInBounds k v = cur := by
    apply Array.ext_getElem?
    intro j
    by_cases hj : k = j
    · subst hj; rw [Array.getElem?_setIfInBounds, if_pos rfl, if_pos hkl, hk]
    · simp [Array.getElem?_setIfInBounds, hj]
  have hm : w.heap.modify g (fun o => match o with | .cells c e f => .cells (c.setIfInBounds k v) e f | o => o) = w.heap := by
    apply Array.ext_getElem?
    intro j
    by_cases hj : g = j
    · subst hj; simp [Array.getElem?_modify, hg, hs]
    · simp [Array.getElem?_modify, hj]
  unfold World.setCell
  cases w
  simp only at hm ⊢
  congr 1
theorem own_frozen {w : World} {base g n cap k : Nat} {l : List (List UInt8)} (h : SOwnIp w base (.slice (some ⟨g, 0, none⟩) n cap) l) : w.frozen? ⟨g, k, none⟩ = false := by
  obtain ⟨cur, _, hg, _⟩ := own_cells h
  simp [World.frozen?, hg]
theorem own_cell {w : World} {base g n cap k : Nat} {l : List (List UInt8)} (h : SOwnIp w base (.slice (some ⟨g, 0, none⟩) n cap) l) (hk : k < l.length) : w.cell? ⟨g, k, none⟩ = some (.string (strOf l[k])) := by
  have hc := World.ownsRow.cells h (g := g) rfl k (.string (strOf l[k])) (by simp [hk])
  rw [addr_add] at hc
  simpa using hc
theorem own_somes {w : World} {base : Nat} {v : Value} {xs : List (List UInt8)} {y : List UInt8} (h : SOwnIp w base v (xs ++ [y])) : ∃ g cap, v = .slice (some ⟨g, 0, none⟩) (xs.length + 1) cap := by
  have h2 : w.ownsRow base 9 1 v (xs.length + 1) ((xs ++ [y]).map fsIp) := by
    have := h
    unfold SOwnIp Own at this
    rwa [List.length_append] at this
  rcases h2.2 with ⟨_, h0⟩ | ⟨g, cap, _, rfl, _⟩
  · omega
  · exact ⟨g, cap, rfl⟩
theorem makeS (n : Nat) (hn : n ≤ 1000000) (w : World) : (Instr.makeSlice 31 (.int .i64 0) (.int .i64 (n : Int))).run Tryd.prog w = .ok (.slice (some ⟨w.heap.size, 0, none⟩) 0 n) (w.alloc (.cells (madeCells #[.string ⟨#[]⟩] n) 9)) := make_cap Tryd.underlying31 info_strIp (by decide) n hn w
theorem compact_mem {l : List (List UInt8)} {y : List UInt8} (h : y ∈ Lib.compact l) : y ∈ l := by
  unfold Lib.compact Lib.compactUpTo at h
  obtain ⟨j, hj, rfl⟩ := List.mem_map.1 h
  have hj2 : j < l.length := List.mem_range.1 (List.mem_filter.1 hj).1
  have e : (l.toArray[j]! : List UInt8) = l[j] := by simp [hj2]
  rw [e]
  exact List.getElem_mem hj2
set_option maxHeartbeats 4000000 in
theorem names_calls (v : Value) (l : List Pr) (w : World) (hv : PRow w v l) (hl : l.length ≤ 1000) (hsz : ∀ p ∈ l, p.1.length ≤ 1100000) :
    Calls Tryd.prog 15 #[v] w fun e w' => (∃ v', e = .returned v' ∧ SRowIp w' v' (namesR l)) ∧ Below w.heap.size w w' := by
  have HS := hid hsz
  obtain ⟨a, cap, rfl, h1, h2, h3⟩ := hv
  have H3 := hid h3
  have hmk := makeS l.length (by omega)
  have HMd := hid (Own.made fsIp 9 w (madeCells #[.string ⟨#[]⟩] l.length) l.length (size_madeCells _ _) (by omega))
  have HBm := hid ((Below.refl w.heap.size w).alloc (Nat.le_refl _) (.cells (madeCells #[.string ⟨#[]⟩] l.length) 9))
  clear h3 hsz
  unfold maxLen at h2
  go_enter Tryd.func15, Tryd.ntmps15
  go_wp2_with fail
  clear hmk
  go_loopw [3, 13] (fun s i wr => ∃ (k g c : Nat), k ≤ l.length ∧ i = .int .i64 k ∧ s = .slice (some ⟨g, 0, none⟩) k c ∧ SOwnIp wr w.heap.size (.slice (some ⟨g, 0, none⟩) k c) ((l.take k).map (·.1)) ∧ Below w.heap.size w wr) (fun _ i _ => l.length - (intOf i).toNat)
  case atStart => exact ⟨0, _, _, Nat.zero_le _, rfl, rfl, HMd.out, HBm.out⟩
  case round =>
    obtain ⟨k, g, c, hk, rfl, rfl, ho, hb⟩ := hrel
    have HB := hid hb
    have HO := hid ho
    by_cases hlt : k < l.length
    · obtain ⟨b, off, rfl, hbl, hc⟩ := H3.out (by intro h; simp [h] at hlt)
      have ck0 := (hb.cell (p := ⟨b, off + 2 * k, none⟩) hbl).trans (hc _ _ (flatP_at l k hlt).1)
      have ck1 := (hb.cell (p := ⟨b, off + (2 * k + 1), none⟩) hbl).trans (hc _ _ (flatP_at l k hlt).2)
      rw [Nat.mul_comm 2 k] at ck0 ck1
      rw [← Nat.add_assoc] at ck1
      have HT : Hid ((l.take (k + 1)).map (·.1) = (l.take k).map (·.1) ++ [l[k].1]) := hid (by rw [List.take_succ_eq_append_getElem hlt, List.map_append]; rfl)
      have k0 : (0 : Int) ≤ (k : Int) := by omega
      have k1 : (k : Int) < (l.length : Int) := by omega
      have hb0 := hb
      clear hc hb ho
      generalize l[k] = p at *
      obtain ⟨c1, c2⟩ := p
      have hsz := hb0.size
      have hlk : ((l.take k).map (·.1)).length ≤ 1000 := by rw [List.length_map, List.length_take]; omega
      obtain ⟨v2, w2, hr, ho2, hg2⟩ := appendS_runIp ((HO.out.alloc (.cells #[fq c1, fq c2] 36)).alloc (.cells #[.string (strOf c1)] 9)) (oneS_row (wr.alloc (.cells #[fq c1, fq c2] 36)) c1) (by simp only [List.length_cons, List.length_nil]; omega) (by simp; omega)
      have hb2 : Below w.heap.size w w2 := (((hb0.alloc hsz (.cells #[fq c1, fq c2] 36)).alloc (by simp; omega) (.cells #[.string (strOf c1)] 9)).grown hg2 (by simp; omega) (fun j hj => (World.ownsRow.lt HO.out j hj).1))
      obtain ⟨g2, cap2, rfl⟩ := own_somes ho2
      have hlk2 : ((l.take k).map (·.1)).length = k := by rw [List.length_map, List.length_take]; omega
      rw [hlk2] at ho2 hr
      rw [World.size_alloc] at hr
      have HO2 := hid ho2
      have HB2 := hid hb2
      clear ho2 hg2 hb0 hb2 hsz hlk hlk2
      go_wp2_with (at_builtin; go_must (refine wpList_append_run hr rfl _ _ rfl rfl rfl rfl ?_))
      clear hr
      go_round
      case rel => exact ⟨k + 1, g2, cap2, by omega, by go_num, rfl, by rw [HT.out]; exact HO2.out, HB2.out⟩
      case measure => simp [intOf]; omega
    · have hkl : k = l.length := by omega
      subst hkl
      rw [List.take_length] at ho
      have hln : (l.map (·.1)).length = l.length := List.length_map _
      have hls : (sortR (l.map (·.1))).length = l.length := (List.length_mergeSort _).trans hln
      have HSo := hid (sortN_calls wr w.heap.size g c (l.map (·.1)) (by rw [hln]; exact ho) (by omega))
      rw [hln, hls] at HSo
      have HCo := hid (fun w1 (h : SOwnIp w1 w.heap.size (.slice (some ⟨g, 0, none⟩) l.length c) (sortR (l.map (·.1)))) => by
        have := compactN_calls w1 w.heap.size g c (sortR (l.map (·.1))) (by rw [hls]; exact h) (by omega)
        rw [hls] at this
        exact this)
      have HCs := hid (show ∀ y ∈ namesR l, y.length ≤ 1100000 from fun y hy => by
        have h1 : y ∈ sortR (l.map (·.1)) := compact_mem hy
        have h2 : y ∈ l.map (·.1) := List.mem_mergeSort.1 h1
        obtain ⟨p, hp, rfl⟩ := List.mem_map.1 h2
        exact HS.out p hp)
      have HCl := hid (show (namesR l).length ≤ 1000 by
        have := Lib.compact_length_le (sortR (l.map (·.1)))
        show (Lib.compact _).length ≤ _
        omega)
      change Hid (∀ w1, SOwnIp w1 w.heap.size _ _ → Calls _ _ _ w1 fun e w' => e = .returned (.slice (some ⟨g, 0, none⟩) (namesR l).length c) ∧ SOwnIp w' w.heap.size (.slice (some ⟨g, 0, none⟩) (namesR l).length c) (namesR l) ∧ _) at HCo
      clear hb ho hln hls
      obtain ⟨cs, hcs⟩ : ∃ cs, namesR l = cs := ⟨_, rfl⟩
      have HE := hid hcs
      rw [hcs] at HCs HCl
      simp only [hcs] at HCo
      clear hcs
      have kk : ¬ (l.length : Int) < (l.length : Int) := by omega
      go_wp2_with fail
      refine HSo.out.mono ?_
      rintro e w2 ⟨rfl, ho2, hb2⟩
      have HO2 := hid ho2
      have HB2 := hid (HB.out.trans hb2)
      clear ho2 hb2
      go_wp2_with fail
      refine (HCo.out w2 HO2.out).mono ?_
      rintro e w3 ⟨rfl, ho3, hb3⟩
      have HO3 := hid ho3
      have HB3 := hid (HB2.out.trans hb3)
      clear ho3 hb3
      go_wp2_with fail
      go_loopw [29] (fun i wr => ∃ k : Nat, k ≤ cs.length ∧ i = .int .i64 k ∧ SOwnIp wr w.heap.size (.slice (some ⟨g, 0, none⟩) cs.length c) cs ∧ Below w.heap.size w wr) (fun i _ => cs.length - (intOf i).toNat)
      case atStart => exact ⟨0, Nat.zero_le _, rfl, HO3.out, HB3.out⟩
      case round =>
        obtain ⟨k, hk, rfl, ho, hb⟩ := hrel
        have HO4 := hid ho
        have HB4 := hid hb
        obtain ⟨_, _, _, hc1, hc2, _⟩ := own_cells ho
        unfold maxLen at hc2
        by_cases hlt : k < cs.length
        · have ck := own_cell ho hlt
          have hY := HCs.out cs[k] (List.getElem_mem hlt)
          have HIx := hid (fun W (h : SOwnIp W w.heap.size (.slice (some ⟨g, 0, none⟩) cs.length c) cs) => own_cell h hlt)
          have k0 : (0 : Int) ≤ (k : Int) := by omega
          have k1 : (k : Int) < (cs.length : Int) := by omega
          generalize cs[k] = y at *
          have HCc := hid (fun W => cloneN_calls (strOf y) W (by show y.length ≤ _; omega))
          clear ho hb hY
          go_wp2_with fail
          refine (HCc.out _).mono ?_
          rintro e w5 ⟨rfl, hb5⟩
          have HO5 : Hid (SOwnIp w5 w.heap.size (.slice (some ⟨g, 0, none⟩) cs.length c) cs) := hid (HO4.out.below hb5)
          have HB5 := hid (HB4.out.trans (hb5.mono HB4.out.size))
          have ck5 := HIx.out w5 HO5.out
          have f5 : w5.frozen? ⟨g, k, none⟩ = false := own_frozen HO5.out
          have hs5 := set_same ck5
          clear hb5 ck
          go_wp2_with fail
          go_round
          case rel => exact ⟨k + 1, by omega, by go_num, HO5.out, HB5.out⟩
          case measure => simp [intOf]; omega
        · have hkl : k = cs.length := by omega
          subst hkl
          have kk2 : ¬ (cs.length : Int) < (cs.length : Int) := by omega
          clear ho hb
          go_wp2_with fail
          go_ret
          exact ⟨⟨_, rfl, by rw [HE.out]; exact HO4.out.row⟩, HB4.out⟩
end Go.Proofs.YtilamfbpbgcnpaaDoor
