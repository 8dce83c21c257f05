/- The document's Unique. -/
import Derived.Test.YtilamfbpbgcnpaaDoorQzP
import Derived.Test.YtilamfbpbgcnpaaDoorQzC
namespace Go.Proofs.YtilamfbpbgcnpaaDoor
open Go.RowKit Go.Shelf
set_option linter.unusedVariables false
set_option maxRecDepth 20000
set_option linter.unusedSimpArgs false
theorem own_takeS {w : World} {base g n cap : Nat} {l : List Tx} (h : SOwnIp w base (.slice (some ⟨g, 0, none⟩) n cap) l) (p : Nat) (hp : p ≤ l.length) : SOwnIp w base (.slice (some ⟨g, 0, none⟩) p cap) (l.take p) := by
  rcases h.2 with ⟨e, _⟩ | ⟨g', cap', cur, e, hb, hg, h1, h2, h3, h4⟩
  · cases e
  · injection e with e1 e2 e3
    injection e1 with e1
    injection e1 with e1
    subst e1 e2 e3
    have hl : (l.take p).length = p := by rw [List.length_take]; omega
    refine ⟨by rw [List.length_map, Nat.mul_one], .inr ⟨g, cap, cur, by rw [hl], hb, hg, by omega, h2, h3, ?_⟩⟩
    rw [hl, Nat.mul_one, List.map_take, ← h4, List.take_take]
    congr 1
    omega
theorem row_dropS {w : World} {g n cap : Nat} {l : List Tx} (h : SRowIp w (.slice (some ⟨g, 0, none⟩) n cap) l) (p : Nat) (hp : p ≤ l.length) : SRowIp w (.slice (some ⟨g, p, none⟩) (l.length - p) (cap - p)) (l.drop p) := by
  obtain ⟨a', cap', he, h1, h2, h3⟩ := h
  injection he with e1 e2 e3
  subst e1 e2 e3
  refine ⟨_, _, by rw [List.length_drop], by rw [List.length_drop]; omega, by omega, fun hne => ?_⟩
  have hpl : p < l.length := by
    rcases Nat.lt_or_ge p l.length with h' | h'
    · exact h'
    · exact absurd (List.drop_eq_nil_of_le h') hne
  obtain ⟨b, off, he, hb, hc⟩ := h3 (by intro e; simp [e] at hpl)
  injection he with he
  injection he with e1 e2
  subst e1 e2
  refine ⟨g, p, rfl, hb, fun i hi => ?_⟩
  rw [List.length_drop] at hi
  have := hc (p + i) (by omega)
  rw [Nat.zero_add] at this
  rw [this, List.getElem_drop]
theorem row_noneS {w : World} {l : List Tx} (p n : Nat) (A : Option Addr) (C : Nat) (hp : l.length ≤ p) (hn : n = 0) (hC : C ≤ maxLen) : SRowIp w (.slice A n C) (l.drop p) := by
  rw [List.drop_eq_nil_of_le hp]
  subst hn
  exact ⟨A, C, rfl, Nat.zero_le _, hC, fun h => absurd rfl h⟩
theorem step_appendS {w : World} {base : Nat} {v : Value} {xs : List Tx} {x : Value} {l : List Tx} (hown : SOwnIp w base v xs) (hrow : SRowIp w x l) (hlen : xs.length + l.length ≤ 1000000) (hbase : base ≤ w.heap.size)
    {ops : Array Oper} {o : Oper} {a : Act} {K : Act → World → Prop} {Q : Exit → Act → World → Prop} {E : Prop} (hgd : o.guard = none) (s y : Operand)
    (ho : o.op = .call { callee := .builtin .append, args := #[s, y], argTypes := #[31, 31] }) (hty : o.type = 31) (hs : a.eval s = v) (hx : a.eval y = x)
    (h : ∀ v' w', SOwnIp w' base v' (xs ++ l) → w.grownBy w' v.ownBlock → K (a.put o.dst v') w') :
    if Region.wanted o (yielded ops a.tmps) = true then Oper.wp Tryd.prog o a w K Q else E := by
  have hw : Region.wanted o (yielded ops a.tmps) = true := by simp [Region.wanted, hgd]
  rw [if_pos hw]
  obtain ⟨v', w', hr, ho', hg⟩ := appendS_runIp hown hrow hlen hbase
  unfold Oper.wp execOp
  simp only [ho, resolve, invoke, builtin, Sem.run_bind, Sem.run_pure, Result.andThen_ok, List.map_toArray, List.map_cons, List.map_nil, hs, hx, hty, hr]
  exact h v' w' ho' hg
theorem litS (w : World) (base : Nat) (x : Tx) (h : base ≤ w.heap.size) : SOwnIp (w.alloc (.cells #[.string (strOf x)] 9)) base (.slice (some ⟨w.heap.size, 0, none⟩) 1 1) [x] := (Own.lit fsIp 9 w [x] (by simp)).mono h
set_option maxRecDepth 20000 in
set_option maxHeartbeats 4000000 in
theorem unique_calls (v : Value) (l : List Tx) (w : World) (hv : SRowIp w v l) (hl : l.length ≤ 1000) :
    Calls Tryd.prog 29 #[v] w fun e w' => (∃ v' o, e = .returned v' ∧ SRowIp w' v' o ∧ Uq l o) ∧ Below w.heap.size w w' := by
  have HV := hid hv
  obtain ⟨a, cap, rfl, hc1, hc2, _⟩ := hv
  unfold maxLen at hc2
  go_enter Tryd.func29, Tryd.ntmps29
  go_wp2_with fail
  go_loopw [3, 4, 5] (fun out i z wr => ∃ (j : Nat) (o : List Tx), j ≤ l.length ∧ i = .int .i64 j ∧ SOwnIp wr w.heap.size out o ∧ Below w.heap.size w wr ∧ Uq (l.take j) o ∧ o.length ≤ j) (fun _ i _ _ => l.length - (intOf i).toNat)
  case atStart => exact ⟨0, [], Nat.zero_le _, rfl, Own.nil _ _ _ _, Below.refl _ _, Uq.nil, Nat.le_refl _⟩
  case round =>
    obtain ⟨j, o, hj, rfl, ho, hb, hu, hol⟩ := hrel
    have HO := hid ho
    have HB := hid hb
    have HU := hid hu
    have HOL := hid hol
    clear hb hu
    have j0 : (0 : Int) ≤ (j : Int) := by omega
    by_cases hlt : j < l.length
    · obtain ⟨b, off, rfl, hbl, hc⟩ := row_atQ HV.out hlt
      have HCk := hid (fun (W : World) (hw : Below w.heap.size w W) => show W.cell? ⟨b, off + j, none⟩ = some (.string (strOf l[j])) from (hw.cell (p := ⟨b, off + j, none⟩) hbl).trans hc)
      have HT : Hid (l.take (j + 1) = l.take j ++ [l[j]]) := hid (List.take_succ_eq_append_getElem hlt)
      have j1 : (j : Int) < (l.length : Int) := by omega
      have hn9 : (l.length : Int) ≤ 1000 := by omega
      have HJ := hid hlt
      have HL9 := hid hl
      clear hc
      generalize l[j]'hlt = x at *
      clear hlt hl hj hol
      rcases ho.2 with ⟨rfl, hl0⟩ | ⟨g, oc, cur, rfl, hbg, _, ho1, ho2, _, _⟩
      · have ho0 : o = [] := List.eq_nil_of_length_eq_zero hl0
        clear ho hl0
        go_wp2_with fail
        go_loopw [5] (fun z wr => z = .int .i64 0 ∧ Below w.heap.size w wr) (fun z _ => (intOf z).toNat)
        case atStart => exact ⟨rfl, HB.out⟩
        case round =>
          obtain ⟨rfl, hb⟩ := hrel
          have HB := hid hb
          have hcx := HCk.out _ hb
          clear hb
          go_wp2_with fail
          go_region
          go_wp2_with fail
          go_region
          go_wp2_with fail
          have HSz : Hid (w.heap.size ≤ wr.drew.drew.drew.heap.size) := hid HB.out.size
          have HB9 : Hid (Below w.heap.size w wr.drew.drew.drew) := hid HB.out.drew.drew.drew
          have HNw : Hid (SOwnIp (wr.drew.drew.drew.alloc (.cells #[.string (strOf x)] 9)) w.heap.size (.slice (some ⟨wr.heap.size, 0, none⟩) 1 1) [x]) := hid (litS wr.drew.drew.drew w.heap.size x HSz.out)
          have HL1 : Hid ([x].length + (o.drop 0).length ≤ 1000000) := hid (by have := HOL.out; have := HL9.out; have := HJ.out; simp; omega)
          have HL2 : Hid ((o.take 0).length + ([x] ++ o.drop 0).length ≤ 1000000) := hid (by have := HOL.out; have := HL9.out; have := HJ.out; simp; omega)
          have HBs : Hid (w.heap.size ≤ (wr.drew.drew.drew.alloc (.cells #[.string (strOf x)] 9)).heap.size) := hid (by have := HSz.out; rw [World.size_alloc]; omega)
          have hcx : wr.drew.drew.drew.cell? ⟨b, off + j, none⟩ = some (.string (strOf x)) := HCk.out _ HB9.out
          have HBe : Hid (∀ y ∈ o.take 0, y < x) := hid (by simp)
          have HAb : Hid (∀ y ∈ o.drop 0, x < y) := hid (by rw [ho0]; simp)
          have HON : Hid (∀ wx, SOwnIp wx w.heap.size (.slice none 0 0) (o.take 0)) := hid (fun wx => Own.nil _ _ _ _)
          go_region_held3 (fun w' => w'.cell? ⟨b, off + j, none⟩ = some (.string (strOf x))) (first | exact hcx | exact HCk.out _ (((HB9.out.alloc HSz.out (.cells #[.string (strOf x)] 9)).grown hg1 HBs.out (by intro k hk; have h9 := HSz.out; injection hk with hk; subst hk; exact h9)).grown hg2 (Nat.le_trans HBs.out hg1.size) (by intro k hk; cases hk)) | exact HCk.out _ ((HB9.out.alloc HSz.out (.cells #[.string (strOf x)] 9)).grown hg1 HBs.out (by intro k hk; have h9 := HSz.out; injection hk with hk; subst hk; exact h9)) | go_keep) (first
            | ((refine step_appendS (base := w.heap.size) (xs := [x]) (l := o.drop 0) HNw.out (by exact row_noneS 0 _ _ _ (by rw [ho0]; exact Nat.le_refl _) (by first | rfl | omega) (by first | exact Nat.zero_le _ | simp)) HL1.out HBs.out rfl _ _ rfl rfl rfl rfl ?_; intro v1 x1 ho1 hg1))
            | ((refine step_appendS (base := w.heap.size) (xs := o.take 0) (l := [x] ++ o.drop 0) (HON.out _) (ho1.row) HL2.out (Nat.le_trans HBs.out hg1.size) rfl _ _ rfl rfl rfl rfl ?_; intro v2 x2 ho2 hg2)))
          have HO4 : Hid (SOwnIp x2 w.heap.size v2 (o.take 0 ++ ([x] ++ o.drop 0))) := ho2
          have HB4 : Hid (Below w.heap.size w x2) := ((HB9.out.alloc HSz.out (.cells #[.string (strOf x)] 9)).grown hg1 HBs.out (by intro k hk; have h9 := HSz.out; injection hk with hk; subst hk; exact h9)).grown hg2 (Nat.le_trans HBs.out hg1.size) (by intro k hk; cases hk)
          clear ho1 hg1 ho2 hg2
          go_wp2_with fail
          go_roundw
          case rel => exact ⟨j + 1, _, by have := HJ.out; omega, by go_num, HO4.out, HB4.out, by rw [HT.out]; exact HU.out.put 0 HBe.out HAb.out, by have := HOL.out; simp [List.length_take, List.length_drop]; omega⟩
          case measure => have := HJ.out; simp [intOf]; omega
      · have HGb := hid hbg
        unfold maxLen at ho2
        clear ho hbg
        go_wp2_with fail
        go_loopw [5] (fun z wr => ∃ k : Nat, k ≤ o.length ∧ z = .int .i64 k ∧ SOwnIp wr w.heap.size (.slice (some ⟨g, 0, none⟩) o.length oc) o ∧ Below w.heap.size w wr ∧ ∀ y ∈ o.drop k, ¬ y < x) (fun z _ => (intOf z).toNat)
        case atStart => exact ⟨o.length, Nat.le_refl _, rfl, HO.out, HB.out, by rw [List.drop_length]; simp⟩
        case round =>
          obtain ⟨k, hk, rfl, ho, hb, hd⟩ := hrel
          have k0 : (0 : Int) ≤ (k : Int) := by omega
          have kc : (k : Int) ≤ (o.length : Int) := by omega
          have HO := hid ho
          have HB := hid hb
          have HD := hid hd
          have HKo := hid hk
          have hcx := HCk.out _ hb
          clear hb hd
          by_cases hz : k = 0
          · have kp : decide (0 < k) = false := by simp [hz]
            have HBe : Hid (∀ y ∈ o.take k, y < x) := hid (by subst hz; simp)
            clear ho hz
            go_wp2_with fail
            go_region
            by_cases hkl : k < o.length
            · obtain ⟨g2, o2, e2, hgl2, hgc2⟩ := row_atQ HO.out.row hkl
              cases e2
              rw [Nat.zero_add] at hgc2
              have k1 : (k : Int) < (o.length : Int) := by omega
              have kd : decide (k < o.length) = true := by simp [hkl]
              by_cases hxe : o[k] = x
              · have c2 : ((strOf o[k]).toList == (strOf x).toList) = true := by rw [hxe]; exact beq_self_eq_true _
                have HX : Hid (x ∈ o) := hid (by rw [← hxe]; exact List.getElem_mem hkl)
                clear hxe
                generalize o[k] = y2 at *
                go_wp2_with fail
                go_region
                go_wp2_with fail
                go_roundw
                case rel => exact ⟨j + 1, o, by have := HJ.out; omega, by go_num, HO.out, HB.out.drew.drew, by rw [HT.out]; exact HU.out.same HX.out, by have := HOL.out; omega⟩
                case measure => have := HJ.out; simp [intOf]; omega
              · have c2 : ((strOf o[k]).toList == (strOf x).toList) = false := by rw [strOf_list, strOf_list]; exact beq_eq_false_iff_ne.2 hxe
                have HAb := hid (HU.out.above k hkl HD.out hxe)
                clear hxe
                generalize o[k] = y2 at *
                go_wp2_with fail
                go_region
                clear hgc2 c2 hgl2
                go_wp2_with fail
                have HSz : Hid (w.heap.size ≤ wr.drew.drew.drew.heap.size) := hid HB.out.size
                have HB9 : Hid (Below w.heap.size w wr.drew.drew.drew) := hid HB.out.drew.drew.drew
                have HNw : Hid (SOwnIp (wr.drew.drew.drew.alloc (.cells #[.string (strOf x)] 9)) w.heap.size (.slice (some ⟨wr.heap.size, 0, none⟩) 1 1) [x]) := hid (litS wr.drew.drew.drew w.heap.size x HSz.out)
                have HL1 : Hid ([x].length + (o.drop k).length ≤ 1000000) := hid (by have := HOL.out; have := HL9.out; have := HJ.out; simp; omega)
                have HL2 : Hid ((o.take k).length + ([x] ++ o.drop k).length ≤ 1000000) := hid (by have := HOL.out; have := HL9.out; have := HJ.out; simp; omega)
                have HBs : Hid (w.heap.size ≤ (wr.drew.drew.drew.alloc (.cells #[.string (strOf x)] 9)).heap.size) := hid (by have := HSz.out; rw [World.size_alloc]; omega)
                have hcx : wr.drew.drew.drew.cell? ⟨b, off + j, none⟩ = some (.string (strOf x)) := HCk.out _ HB9.out
                have HOT : Hid (SOwnIp wr.drew.drew.drew w.heap.size (.slice (some ⟨g, 0, none⟩) k oc) (o.take k)) := hid (own_takeS HO.out k HKo.out)
                have HGB : Hid (g < wr.heap.size) := hid (Array.getElem?_eq_some_iff.1 (own_cells HO.out).choose_spec.2.1).1
                have ppc : (k : Int) ≤ (oc : Int) := by have := HKo.out; omega
                by_cases hcp : oc = k
                · have HNP : Hid (o.length ≤ k) := hid (by omega)
                  have hnp : o.length - k = 0 := by omega
                  have hnpI : (o.length : Int) - (k : Int) = 0 := by omega
                  rw [hcp] at HOT
                  clear ho1
                  go_region_held3 (fun w' => w'.cell? ⟨b, off + j, none⟩ = some (.string (strOf x))) (first | exact hcx | exact HCk.out _ (((HB9.out.alloc HSz.out (.cells #[.string (strOf x)] 9)).grown hg1 HBs.out (by intro k hk; have h9 := HSz.out; injection hk with hk; subst hk; exact h9)).grown hg2 (Nat.le_trans HBs.out hg1.size) (by intro q hk; have h9 := HGb.out; injection hk with hk; subst hk; exact h9)) | exact HCk.out _ ((HB9.out.alloc HSz.out (.cells #[.string (strOf x)] 9)).grown hg1 HBs.out (by intro k hk; have h9 := HSz.out; injection hk with hk; subst hk; exact h9)) | go_keep) (first
                    | ((refine step_appendS (base := w.heap.size) (xs := [x]) (l := o.drop k) HNw.out (by exact row_noneS k _ _ _ HNP.out (by first | rfl | exact hnp | omega) (by first | exact Nat.zero_le _ | (unfold maxLen; omega))) HL1.out HBs.out rfl _ _ rfl rfl rfl rfl ?_; intro v1 x1 ho1 hg1))
                    | ((refine step_appendS (base := w.heap.size) (xs := o.take k) (l := [x] ++ o.drop k) ((World.ownsRow.kept (HOT.out.alloc _) hg1 (Or.inr (by intro h9; have h8 := HGB.out; have h10 : g = wr.heap.size := Option.some.inj h9; omega)))) (ho1.row) HL2.out (Nat.le_trans HBs.out hg1.size) rfl _ _ rfl rfl rfl rfl ?_; intro v2 x2 ho2 hg2)))
                  have HO4 : Hid (SOwnIp x2 w.heap.size v2 (o.take k ++ ([x] ++ o.drop k))) := ho2
                  have HB4 : Hid (Below w.heap.size w x2) := ((HB9.out.alloc HSz.out (.cells #[.string (strOf x)] 9)).grown hg1 HBs.out (by intro k hk; have h9 := HSz.out; injection hk with hk; subst hk; exact h9)).grown hg2 (Nat.le_trans HBs.out hg1.size) (by intro q hk; have h9 := HGb.out; injection hk with hk; subst hk; exact h9)
                  clear ho1 hg1 ho2 hg2
                  go_wp2_with fail
                  go_roundw
                  case rel => exact ⟨j + 1, _, by have := HJ.out; omega, by go_num, HO4.out, HB4.out, by rw [HT.out]; exact HU.out.put k HBe.out HAb.out, by have := HOL.out; simp [List.length_take, List.length_drop]; omega⟩
                  case measure => have := HJ.out; simp [intOf]; omega
                · have hcp2 : (oc = k) = False := eq_false hcp
                  have HRD : Hid (SRowIp wr.drew.drew.drew (.slice (some ⟨g, k, none⟩) (o.length - k) (oc - k)) (o.drop k)) := hid (row_dropS HO.out.row k HKo.out)
                  clear ho1
                  go_region_held3 (fun w' => w'.cell? ⟨b, off + j, none⟩ = some (.string (strOf x))) (first | exact hcx | exact HCk.out _ (((HB9.out.alloc HSz.out (.cells #[.string (strOf x)] 9)).grown hg1 HBs.out (by intro k hk; have h9 := HSz.out; injection hk with hk; subst hk; exact h9)).grown hg2 (Nat.le_trans HBs.out hg1.size) (by intro q hk; have h9 := HGb.out; injection hk with hk; subst hk; exact h9)) | exact HCk.out _ ((HB9.out.alloc HSz.out (.cells #[.string (strOf x)] 9)).grown hg1 HBs.out (by intro k hk; have h9 := HSz.out; injection hk with hk; subst hk; exact h9)) | go_keep) (first
                    | ((refine step_appendS (base := w.heap.size) (xs := [x]) (l := o.drop k) HNw.out (by exact (HRD.out.below ((Below.refl _ _).alloc (Nat.le_refl _) _))) HL1.out HBs.out rfl _ _ rfl rfl rfl rfl ?_; intro v1 x1 ho1 hg1))
                    | ((refine step_appendS (base := w.heap.size) (xs := o.take k) (l := [x] ++ o.drop k) ((World.ownsRow.kept (HOT.out.alloc _) hg1 (Or.inr (by intro h9; have h8 := HGB.out; have h10 : g = wr.heap.size := Option.some.inj h9; omega)))) (ho1.row) HL2.out (Nat.le_trans HBs.out hg1.size) rfl _ _ rfl rfl rfl rfl ?_; intro v2 x2 ho2 hg2)))
                  have HO4 : Hid (SOwnIp x2 w.heap.size v2 (o.take k ++ ([x] ++ o.drop k))) := ho2
                  have HB4 : Hid (Below w.heap.size w x2) := ((HB9.out.alloc HSz.out (.cells #[.string (strOf x)] 9)).grown hg1 HBs.out (by intro k hk; have h9 := HSz.out; injection hk with hk; subst hk; exact h9)).grown hg2 (Nat.le_trans HBs.out hg1.size) (by intro q hk; have h9 := HGb.out; injection hk with hk; subst hk; exact h9)
                  clear ho1 hg1 ho2 hg2
                  go_wp2_with fail
                  go_roundw
                  case rel => exact ⟨j + 1, _, by have := HJ.out; omega, by go_num, HO4.out, HB4.out, by rw [HT.out]; exact HU.out.put k HBe.out HAb.out, by have := HOL.out; simp [List.length_take, List.length_drop]; omega⟩
                  case measure => have := HJ.out; simp [intOf]; omega
            · have kd : decide (k < o.length) = false := by simp [hkl]
              have HAb : Hid (∀ y ∈ o.drop k, x < y) := hid (by rw [List.drop_eq_nil_of_le (by omega)]; simp)
              go_wp2_with fail
              go_region
              go_wp2_with fail
              have HSz : Hid (w.heap.size ≤ wr.drew.drew.drew.heap.size) := hid HB.out.size
              have HB9 : Hid (Below w.heap.size w wr.drew.drew.drew) := hid HB.out.drew.drew.drew
              have HNw : Hid (SOwnIp (wr.drew.drew.drew.alloc (.cells #[.string (strOf x)] 9)) w.heap.size (.slice (some ⟨wr.heap.size, 0, none⟩) 1 1) [x]) := hid (litS wr.drew.drew.drew w.heap.size x HSz.out)
              have HL1 : Hid ([x].length + (o.drop k).length ≤ 1000000) := hid (by have := HOL.out; have := HL9.out; have := HJ.out; simp; omega)
              have HL2 : Hid ((o.take k).length + ([x] ++ o.drop k).length ≤ 1000000) := hid (by have := HOL.out; have := HL9.out; have := HJ.out; simp; omega)
              have HBs : Hid (w.heap.size ≤ (wr.drew.drew.drew.alloc (.cells #[.string (strOf x)] 9)).heap.size) := hid (by have := HSz.out; rw [World.size_alloc]; omega)
              have hcx : wr.drew.drew.drew.cell? ⟨b, off + j, none⟩ = some (.string (strOf x)) := HCk.out _ HB9.out
              have HOT : Hid (SOwnIp wr.drew.drew.drew w.heap.size (.slice (some ⟨g, 0, none⟩) k oc) (o.take k)) := hid (own_takeS HO.out k HKo.out)
              have HGB : Hid (g < wr.heap.size) := hid (Array.getElem?_eq_some_iff.1 (own_cells HO.out).choose_spec.2.1).1
              have ppc : (k : Int) ≤ (oc : Int) := by have := HKo.out; omega
              by_cases hcp : oc = k
              · have HNP : Hid (o.length ≤ k) := hid (by omega)
                have hnp : o.length - k = 0 := by omega
                have hnpI : (o.length : Int) - (k : Int) = 0 := by omega
                rw [hcp] at HOT
                clear ho1
                go_region_held3 (fun w' => w'.cell? ⟨b, off + j, none⟩ = some (.string (strOf x))) (first | exact hcx | exact HCk.out _ (((HB9.out.alloc HSz.out (.cells #[.string (strOf x)] 9)).grown hg1 HBs.out (by intro k hk; have h9 := HSz.out; injection hk with hk; subst hk; exact h9)).grown hg2 (Nat.le_trans HBs.out hg1.size) (by intro q hk; have h9 := HGb.out; injection hk with hk; subst hk; exact h9)) | exact HCk.out _ ((HB9.out.alloc HSz.out (.cells #[.string (strOf x)] 9)).grown hg1 HBs.out (by intro k hk; have h9 := HSz.out; injection hk with hk; subst hk; exact h9)) | go_keep) (first
                  | ((refine step_appendS (base := w.heap.size) (xs := [x]) (l := o.drop k) HNw.out (by exact row_noneS k _ _ _ HNP.out (by first | rfl | exact hnp | omega) (by first | exact Nat.zero_le _ | (unfold maxLen; omega))) HL1.out HBs.out rfl _ _ rfl rfl rfl rfl ?_; intro v1 x1 ho1 hg1))
                  | ((refine step_appendS (base := w.heap.size) (xs := o.take k) (l := [x] ++ o.drop k) ((World.ownsRow.kept (HOT.out.alloc _) hg1 (Or.inr (by intro h9; have h8 := HGB.out; have h10 : g = wr.heap.size := Option.some.inj h9; omega)))) (ho1.row) HL2.out (Nat.le_trans HBs.out hg1.size) rfl _ _ rfl rfl rfl rfl ?_; intro v2 x2 ho2 hg2)))
                have HO4 : Hid (SOwnIp x2 w.heap.size v2 (o.take k ++ ([x] ++ o.drop k))) := ho2
                have HB4 : Hid (Below w.heap.size w x2) := ((HB9.out.alloc HSz.out (.cells #[.string (strOf x)] 9)).grown hg1 HBs.out (by intro k hk; have h9 := HSz.out; injection hk with hk; subst hk; exact h9)).grown hg2 (Nat.le_trans HBs.out hg1.size) (by intro q hk; have h9 := HGb.out; injection hk with hk; subst hk; exact h9)
                clear ho1 hg1 ho2 hg2
                go_wp2_with fail
                go_roundw
                case rel => exact ⟨j + 1, _, by have := HJ.out; omega, by go_num, HO4.out, HB4.out, by rw [HT.out]; exact HU.out.put k HBe.out HAb.out, by have := HOL.out; simp [List.length_take, List.length_drop]; omega⟩
                case measure => have := HJ.out; simp [intOf]; omega
              · have hcp2 : (oc = k) = False := eq_false hcp
                have HRD : Hid (SRowIp wr.drew.drew.drew (.slice (some ⟨g, k, none⟩) (o.length - k) (oc - k)) (o.drop k)) := hid (row_dropS HO.out.row k HKo.out)
                clear ho1
                go_region_held3 (fun w' => w'.cell? ⟨b, off + j, none⟩ = some (.string (strOf x))) (first | exact hcx | exact HCk.out _ (((HB9.out.alloc HSz.out (.cells #[.string (strOf x)] 9)).grown hg1 HBs.out (by intro k hk; have h9 := HSz.out; injection hk with hk; subst hk; exact h9)).grown hg2 (Nat.le_trans HBs.out hg1.size) (by intro q hk; have h9 := HGb.out; injection hk with hk; subst hk; exact h9)) | exact HCk.out _ ((HB9.out.alloc HSz.out (.cells #[.string (strOf x)] 9)).grown hg1 HBs.out (by intro k hk; have h9 := HSz.out; injection hk with hk; subst hk; exact h9)) | go_keep) (first
                  | ((refine step_appendS (base := w.heap.size) (xs := [x]) (l := o.drop k) HNw.out (by exact (HRD.out.below ((Below.refl _ _).alloc (Nat.le_refl _) _))) HL1.out HBs.out rfl _ _ rfl rfl rfl rfl ?_; intro v1 x1 ho1 hg1))
                  | ((refine step_appendS (base := w.heap.size) (xs := o.take k) (l := [x] ++ o.drop k) ((World.ownsRow.kept (HOT.out.alloc _) hg1 (Or.inr (by intro h9; have h8 := HGB.out; have h10 : g = wr.heap.size := Option.some.inj h9; omega)))) (ho1.row) HL2.out (Nat.le_trans HBs.out hg1.size) rfl _ _ rfl rfl rfl rfl ?_; intro v2 x2 ho2 hg2)))
                have HO4 : Hid (SOwnIp x2 w.heap.size v2 (o.take k ++ ([x] ++ o.drop k))) := ho2
                have HB4 : Hid (Below w.heap.size w x2) := ((HB9.out.alloc HSz.out (.cells #[.string (strOf x)] 9)).grown hg1 HBs.out (by intro k hk; have h9 := HSz.out; injection hk with hk; subst hk; exact h9)).grown hg2 (Nat.le_trans HBs.out hg1.size) (by intro q hk; have h9 := HGb.out; injection hk with hk; subst hk; exact h9)
                clear ho1 hg1 ho2 hg2
                go_wp2_with fail
                go_roundw
                case rel => exact ⟨j + 1, _, by have := HJ.out; omega, by go_num, HO4.out, HB4.out, by rw [HT.out]; exact HU.out.put k HBe.out HAb.out, by have := HOL.out; simp [List.length_take, List.length_drop]; omega⟩
                case measure => have := HJ.out; simp [intOf]; omega
          · obtain ⟨m, hm⟩ : ∃ m, k = m + 1 := ⟨k - 1, by omega⟩
            have hml : m < o.length := by omega
            obtain ⟨gb, go', e2, hgl, hgc⟩ := row_atQ ho.row hml
            cases e2
            rw [Nat.zero_add] at hgc
            have m0 : (0 : Int) ≤ (m : Int) := by omega
            have m1 : (m : Int) < (o.length : Int) := by omega
            have kp : decide (0 < k) = true := by simp [hm]
            have hk1 : (k : Int) - 1 = (m : Int) := by omega
            have HStep := hid (fun h => scan_step (x := x) m hml (by rw [← hm]; exact HD.out) h)
            have HBelow : Hid (o[m] < x → ∀ y ∈ o.take k, y < x) := hid (fun h => by rw [hm]; exact HU.out.below (x := x) m hml h)
            clear ho hz
            by_cases hc : o[m] < x
            · have c1 := less_yes hc
              have HBe := hid (HBelow.out hc)
              generalize o[m] = y at *
              clear hc HStep HBelow hm hml
              go_wp2_with fail
              go_region
              clear hgc c1 hk1 m0 m1
              by_cases hkl : k < o.length
              · obtain ⟨g2, o2, e2, hgl2, hgc2⟩ := row_atQ HO.out.row hkl
                cases e2
                rw [Nat.zero_add] at hgc2
                have k1 : (k : Int) < (o.length : Int) := by omega
                have kd : decide (k < o.length) = true := by simp [hkl]
                by_cases hxe : o[k] = x
                · have c2 : ((strOf o[k]).toList == (strOf x).toList) = true := by rw [hxe]; exact beq_self_eq_true _
                  have HX : Hid (x ∈ o) := hid (by rw [← hxe]; exact List.getElem_mem hkl)
                  clear hxe
                  generalize o[k] = y2 at *
                  go_wp2_with fail
                  go_region
                  go_wp2_with fail
                  go_roundw
                  case rel => exact ⟨j + 1, o, by have := HJ.out; omega, by go_num, HO.out, HB.out.drew.drew, by rw [HT.out]; exact HU.out.same HX.out, by have := HOL.out; omega⟩
                  case measure => have := HJ.out; simp [intOf]; omega
                · have c2 : ((strOf o[k]).toList == (strOf x).toList) = false := by rw [strOf_list, strOf_list]; exact beq_eq_false_iff_ne.2 hxe
                  have HAb := hid (HU.out.above k hkl HD.out hxe)
                  clear hxe
                  generalize o[k] = y2 at *
                  go_wp2_with fail
                  go_region
                  clear hgc2 c2 hgl2
                  go_wp2_with fail
                  have HSz : Hid (w.heap.size ≤ wr.drew.drew.drew.heap.size) := hid HB.out.size
                  have HB9 : Hid (Below w.heap.size w wr.drew.drew.drew) := hid HB.out.drew.drew.drew
                  have HNw : Hid (SOwnIp (wr.drew.drew.drew.alloc (.cells #[.string (strOf x)] 9)) w.heap.size (.slice (some ⟨wr.heap.size, 0, none⟩) 1 1) [x]) := hid (litS wr.drew.drew.drew w.heap.size x HSz.out)
                  have HL1 : Hid ([x].length + (o.drop k).length ≤ 1000000) := hid (by have := HOL.out; have := HL9.out; have := HJ.out; simp; omega)
                  have HL2 : Hid ((o.take k).length + ([x] ++ o.drop k).length ≤ 1000000) := hid (by have := HOL.out; have := HL9.out; have := HJ.out; simp; omega)
                  have HBs : Hid (w.heap.size ≤ (wr.drew.drew.drew.alloc (.cells #[.string (strOf x)] 9)).heap.size) := hid (by have := HSz.out; rw [World.size_alloc]; omega)
                  have hcx : wr.drew.drew.drew.cell? ⟨b, off + j, none⟩ = some (.string (strOf x)) := HCk.out _ HB9.out
                  have HOT : Hid (SOwnIp wr.drew.drew.drew w.heap.size (.slice (some ⟨g, 0, none⟩) k oc) (o.take k)) := hid (own_takeS HO.out k HKo.out)
                  have HGB : Hid (g < wr.heap.size) := hid (Array.getElem?_eq_some_iff.1 (own_cells HO.out).choose_spec.2.1).1
                  have ppc : (k : Int) ≤ (oc : Int) := by have := HKo.out; omega
                  by_cases hcp : oc = k
                  · have HNP : Hid (o.length ≤ k) := hid (by omega)
                    have hnp : o.length - k = 0 := by omega
                    have hnpI : (o.length : Int) - (k : Int) = 0 := by omega
                    rw [hcp] at HOT
                    clear ho1
                    go_region_held3 (fun w' => w'.cell? ⟨b, off + j, none⟩ = some (.string (strOf x))) (first | exact hcx | exact HCk.out _ (((HB9.out.alloc HSz.out (.cells #[.string (strOf x)] 9)).grown hg1 HBs.out (by intro k hk; have h9 := HSz.out; injection hk with hk; subst hk; exact h9)).grown hg2 (Nat.le_trans HBs.out hg1.size) (by intro q hk; have h9 := HGb.out; injection hk with hk; subst hk; exact h9)) | exact HCk.out _ ((HB9.out.alloc HSz.out (.cells #[.string (strOf x)] 9)).grown hg1 HBs.out (by intro k hk; have h9 := HSz.out; injection hk with hk; subst hk; exact h9)) | go_keep) (first
                      | ((refine step_appendS (base := w.heap.size) (xs := [x]) (l := o.drop k) HNw.out (by exact row_noneS k _ _ _ HNP.out (by first | rfl | exact hnp | omega) (by first | exact Nat.zero_le _ | (unfold maxLen; omega))) HL1.out HBs.out rfl _ _ rfl rfl rfl rfl ?_; intro v1 x1 ho1 hg1))
                      | ((refine step_appendS (base := w.heap.size) (xs := o.take k) (l := [x] ++ o.drop k) ((World.ownsRow.kept (HOT.out.alloc _) hg1 (Or.inr (by intro h9; have h8 := HGB.out; have h10 : g = wr.heap.size := Option.some.inj h9; omega)))) (ho1.row) HL2.out (Nat.le_trans HBs.out hg1.size) rfl _ _ rfl rfl rfl rfl ?_; intro v2 x2 ho2 hg2)))
                    have HO4 : Hid (SOwnIp x2 w.heap.size v2 (o.take k ++ ([x] ++ o.drop k))) := ho2
                    have HB4 : Hid (Below w.heap.size w x2) := ((HB9.out.alloc HSz.out (.cells #[.string (strOf x)] 9)).grown hg1 HBs.out (by intro k hk; have h9 := HSz.out; injection hk with hk; subst hk; exact h9)).grown hg2 (Nat.le_trans HBs.out hg1.size) (by intro q hk; have h9 := HGb.out; injection hk with hk; subst hk; exact h9)
                    clear ho1 hg1 ho2 hg2
                    go_wp2_with fail
                    go_roundw
                    case rel => exact ⟨j + 1, _, by have := HJ.out; omega, by go_num, HO4.out, HB4.out, by rw [HT.out]; exact HU.out.put k HBe.out HAb.out, by have := HOL.out; simp [List.length_take, List.length_drop]; omega⟩
                    case measure => have := HJ.out; simp [intOf]; omega
                  · have hcp2 : (oc = k) = False := eq_false hcp
                    have HRD : Hid (SRowIp wr.drew.drew.drew (.slice (some ⟨g, k, none⟩) (o.length - k) (oc - k)) (o.drop k)) := hid (row_dropS HO.out.row k HKo.out)
                    clear ho1
                    go_region_held3 (fun w' => w'.cell? ⟨b, off + j, none⟩ = some (.string (strOf x))) (first | exact hcx | exact HCk.out _ (((HB9.out.alloc HSz.out (.cells #[.string (strOf x)] 9)).grown hg1 HBs.out (by intro k hk; have h9 := HSz.out; injection hk with hk; subst hk; exact h9)).grown hg2 (Nat.le_trans HBs.out hg1.size) (by intro q hk; have h9 := HGb.out; injection hk with hk; subst hk; exact h9)) | exact HCk.out _ ((HB9.out.alloc HSz.out (.cells #[.string (strOf x)] 9)).grown hg1 HBs.out (by intro k hk; have h9 := HSz.out; injection hk with hk; subst hk; exact h9)) | go_keep) (first
                      | ((refine step_appendS (base := w.heap.size) (xs := [x]) (l := o.drop k) HNw.out (by exact (HRD.out.below ((Below.refl _ _).alloc (Nat.le_refl _) _))) HL1.out HBs.out rfl _ _ rfl rfl rfl rfl ?_; intro v1 x1 ho1 hg1))
                      | ((refine step_appendS (base := w.heap.size) (xs := o.take k) (l := [x] ++ o.drop k) ((World.ownsRow.kept (HOT.out.alloc _) hg1 (Or.inr (by intro h9; have h8 := HGB.out; have h10 : g = wr.heap.size := Option.some.inj h9; omega)))) (ho1.row) HL2.out (Nat.le_trans HBs.out hg1.size) rfl _ _ rfl rfl rfl rfl ?_; intro v2 x2 ho2 hg2)))
                    have HO4 : Hid (SOwnIp x2 w.heap.size v2 (o.take k ++ ([x] ++ o.drop k))) := ho2
                    have HB4 : Hid (Below w.heap.size w x2) := ((HB9.out.alloc HSz.out (.cells #[.string (strOf x)] 9)).grown hg1 HBs.out (by intro k hk; have h9 := HSz.out; injection hk with hk; subst hk; exact h9)).grown hg2 (Nat.le_trans HBs.out hg1.size) (by intro q hk; have h9 := HGb.out; injection hk with hk; subst hk; exact h9)
                    clear ho1 hg1 ho2 hg2
                    go_wp2_with fail
                    go_roundw
                    case rel => exact ⟨j + 1, _, by have := HJ.out; omega, by go_num, HO4.out, HB4.out, by rw [HT.out]; exact HU.out.put k HBe.out HAb.out, by have := HOL.out; simp [List.length_take, List.length_drop]; omega⟩
                    case measure => have := HJ.out; simp [intOf]; omega
              · have kd : decide (k < o.length) = false := by simp [hkl]
                have HAb : Hid (∀ y ∈ o.drop k, x < y) := hid (by rw [List.drop_eq_nil_of_le (by omega)]; simp)
                go_wp2_with fail
                go_region
                go_wp2_with fail
                have HSz : Hid (w.heap.size ≤ wr.drew.drew.drew.heap.size) := hid HB.out.size
                have HB9 : Hid (Below w.heap.size w wr.drew.drew.drew) := hid HB.out.drew.drew.drew
                have HNw : Hid (SOwnIp (wr.drew.drew.drew.alloc (.cells #[.string (strOf x)] 9)) w.heap.size (.slice (some ⟨wr.heap.size, 0, none⟩) 1 1) [x]) := hid (litS wr.drew.drew.drew w.heap.size x HSz.out)
                have HL1 : Hid ([x].length + (o.drop k).length ≤ 1000000) := hid (by have := HOL.out; have := HL9.out; have := HJ.out; simp; omega)
                have HL2 : Hid ((o.take k).length + ([x] ++ o.drop k).length ≤ 1000000) := hid (by have := HOL.out; have := HL9.out; have := HJ.out; simp; omega)
                have HBs : Hid (w.heap.size ≤ (wr.drew.drew.drew.alloc (.cells #[.string (strOf x)] 9)).heap.size) := hid (by have := HSz.out; rw [World.size_alloc]; omega)
                have hcx : wr.drew.drew.drew.cell? ⟨b, off + j, none⟩ = some (.string (strOf x)) := HCk.out _ HB9.out
                have HOT : Hid (SOwnIp wr.drew.drew.drew w.heap.size (.slice (some ⟨g, 0, none⟩) k oc) (o.take k)) := hid (own_takeS HO.out k HKo.out)
                have HGB : Hid (g < wr.heap.size) := hid (Array.getElem?_eq_some_iff.1 (own_cells HO.out).choose_spec.2.1).1
                have ppc : (k : Int) ≤ (oc : Int) := by have := HKo.out; omega
                by_cases hcp : oc = k
                · have HNP : Hid (o.length ≤ k) := hid (by omega)
                  have hnp : o.length - k = 0 := by omega
                  have hnpI : (o.length : Int) - (k : Int) = 0 := by omega
                  rw [hcp] at HOT
                  clear ho1
                  go_region_held3 (fun w' => w'.cell? ⟨b, off + j, none⟩ = some (.string (strOf x))) (first | exact hcx | exact HCk.out _ (((HB9.out.alloc HSz.out (.cells #[.string (strOf x)] 9)).grown hg1 HBs.out (by intro k hk; have h9 := HSz.out; injection hk with hk; subst hk; exact h9)).grown hg2 (Nat.le_trans HBs.out hg1.size) (by intro q hk; have h9 := HGb.out; injection hk with hk; subst hk; exact h9)) | exact HCk.out _ ((HB9.out.alloc HSz.out (.cells #[.string (strOf x)] 9)).grown hg1 HBs.out (by intro k hk; have h9 := HSz.out; injection hk with hk; subst hk; exact h9)) | go_keep) (first
                    | ((refine step_appendS (base := w.heap.size) (xs := [x]) (l := o.drop k) HNw.out (by exact row_noneS k _ _ _ HNP.out (by first | rfl | exact hnp | omega) (by first | exact Nat.zero_le _ | (unfold maxLen; omega))) HL1.out HBs.out rfl _ _ rfl rfl rfl rfl ?_; intro v1 x1 ho1 hg1))
                    | ((refine step_appendS (base := w.heap.size) (xs := o.take k) (l := [x] ++ o.drop k) ((World.ownsRow.kept (HOT.out.alloc _) hg1 (Or.inr (by intro h9; have h8 := HGB.out; have h10 : g = wr.heap.size := Option.some.inj h9; omega)))) (ho1.row) HL2.out (Nat.le_trans HBs.out hg1.size) rfl _ _ rfl rfl rfl rfl ?_; intro v2 x2 ho2 hg2)))
                  have HO4 : Hid (SOwnIp x2 w.heap.size v2 (o.take k ++ ([x] ++ o.drop k))) := ho2
                  have HB4 : Hid (Below w.heap.size w x2) := ((HB9.out.alloc HSz.out (.cells #[.string (strOf x)] 9)).grown hg1 HBs.out (by intro k hk; have h9 := HSz.out; injection hk with hk; subst hk; exact h9)).grown hg2 (Nat.le_trans HBs.out hg1.size) (by intro q hk; have h9 := HGb.out; injection hk with hk; subst hk; exact h9)
                  clear ho1 hg1 ho2 hg2
                  go_wp2_with fail
                  go_roundw
                  case rel => exact ⟨j + 1, _, by have := HJ.out; omega, by go_num, HO4.out, HB4.out, by rw [HT.out]; exact HU.out.put k HBe.out HAb.out, by have := HOL.out; simp [List.length_take, List.length_drop]; omega⟩
                  case measure => have := HJ.out; simp [intOf]; omega
                · have hcp2 : (oc = k) = False := eq_false hcp
                  have HRD : Hid (SRowIp wr.drew.drew.drew (.slice (some ⟨g, k, none⟩) (o.length - k) (oc - k)) (o.drop k)) := hid (row_dropS HO.out.row k HKo.out)
                  clear ho1
                  go_region_held3 (fun w' => w'.cell? ⟨b, off + j, none⟩ = some (.string (strOf x))) (first | exact hcx | exact HCk.out _ (((HB9.out.alloc HSz.out (.cells #[.string (strOf x)] 9)).grown hg1 HBs.out (by intro k hk; have h9 := HSz.out; injection hk with hk; subst hk; exact h9)).grown hg2 (Nat.le_trans HBs.out hg1.size) (by intro q hk; have h9 := HGb.out; injection hk with hk; subst hk; exact h9)) | exact HCk.out _ ((HB9.out.alloc HSz.out (.cells #[.string (strOf x)] 9)).grown hg1 HBs.out (by intro k hk; have h9 := HSz.out; injection hk with hk; subst hk; exact h9)) | go_keep) (first
                    | ((refine step_appendS (base := w.heap.size) (xs := [x]) (l := o.drop k) HNw.out (by exact (HRD.out.below ((Below.refl _ _).alloc (Nat.le_refl _) _))) HL1.out HBs.out rfl _ _ rfl rfl rfl rfl ?_; intro v1 x1 ho1 hg1))
                    | ((refine step_appendS (base := w.heap.size) (xs := o.take k) (l := [x] ++ o.drop k) ((World.ownsRow.kept (HOT.out.alloc _) hg1 (Or.inr (by intro h9; have h8 := HGB.out; have h10 : g = wr.heap.size := Option.some.inj h9; omega)))) (ho1.row) HL2.out (Nat.le_trans HBs.out hg1.size) rfl _ _ rfl rfl rfl rfl ?_; intro v2 x2 ho2 hg2)))
                  have HO4 : Hid (SOwnIp x2 w.heap.size v2 (o.take k ++ ([x] ++ o.drop k))) := ho2
                  have HB4 : Hid (Below w.heap.size w x2) := ((HB9.out.alloc HSz.out (.cells #[.string (strOf x)] 9)).grown hg1 HBs.out (by intro k hk; have h9 := HSz.out; injection hk with hk; subst hk; exact h9)).grown hg2 (Nat.le_trans HBs.out hg1.size) (by intro q hk; have h9 := HGb.out; injection hk with hk; subst hk; exact h9)
                  clear ho1 hg1 ho2 hg2
                  go_wp2_with fail
                  go_roundw
                  case rel => exact ⟨j + 1, _, by have := HJ.out; omega, by go_num, HO4.out, HB4.out, by rw [HT.out]; exact HU.out.put k HBe.out HAb.out, by have := HOL.out; simp [List.length_take, List.length_drop]; omega⟩
                  case measure => have := HJ.out; simp [intOf]; omega
            · have c1 := less_no hc
              have HSt := hid (HStep.out hc)
              generalize o[m] = y at *
              have HM := hid hm
              clear hc HStep HBelow hm
              go_wp2_with fail
              go_region
              go_wp2_with fail
              go_roundw
              case rel => exact ⟨m, by omega, by go_num, HO.out, HB.out.drew, HSt.out⟩
              case measure => have := HM.out; simp [intOf]; omega
    · have hjl : j = l.length := by omega
      have HUl : Hid (Uq l o) := hid (by have := HU.out; rw [hjl, List.take_length] at this; exact this)
      have kk : ¬ (j : Int) < (l.length : Int) := by omega
      clear hjl hlt HU
      go_wp2_with fail
      go_ret
      refine ⟨?_, HB.out⟩
      first | exact ⟨_, _, rfl, HO.out.row, HUl.out⟩ | exact ⟨_, rfl, _, HO.out.row, HUl.out⟩ | trace_state
end Go.Proofs.YtilamfbpbgcnpaaDoor
