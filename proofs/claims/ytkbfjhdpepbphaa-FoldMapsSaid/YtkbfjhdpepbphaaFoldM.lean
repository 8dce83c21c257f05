/- The walk of Map. -/
import Derived.Test.YtkbfjhdpepbphaaFoldK
namespace Go.Proofs.Ytkbfjhdpepbphaa
open Go.RowKit
set_option linter.unusedVariables false
def mapOf (l : List Int) : List Int := l.flatMap fun c => signs (ruleOf c) c
theorem map_len : ∀ l : List Int, (mapOf l).length ≤ 2 * l.length
  | [] => by simp [mapOf]
  | c :: l => by
    have := map_len l
    have h2 := signs_len (ruleOf c) c
    unfold mapOf at *
    rw [List.flatMap_cons, List.length_append, List.length_cons]; omega
theorem map_snoc (l : List Int) (k : Nat) (h : k < l.length) : mapOf (l.take (k + 1)) = mapOf (l.take k) ++ signs (ruleOf l[k]) l[k] := by
  unfold mapOf
  rw [List.take_succ_eq_append_getElem h, List.flatMap_append]; simp
/-- None is Forbidden. -/
def Fine (l : List Int) : Prop := ∀ c ∈ l, kindOf c ≠ 4
/-- The first that is Forbidden stands at a place. -/
def BadAt (l : List Int) (i : Nat) : Prop := ∃ h : i < l.length, kindOf l[i] = 4 ∧ Fine (l.take i)
theorem fine_or (l : List Int) : Fine l ∨ ∃ i, BadAt l i := by
  by_cases h : Fine l
  · exact .inl h
  · right
    have hk : ∀ n, n ≤ l.length → Fine (l.take n) ∨ ∃ i, BadAt l i := by
      intro n
      induction n with
      | zero => intro _; left; intro c hc; simp at hc
      | succ n ih =>
        intro hn
        rcases ih (by omega) with g | g
        · by_cases h4 : kindOf (l[n]'(by omega)) = 4
          · exact .inr ⟨n, by omega, h4, g⟩
          · left
            rw [List.take_succ_eq_append_getElem (by omega)]
            intro c hc
            rcases List.mem_append.1 hc with h' | h'
            · exact g c h'
            · rw [List.mem_singleton.1 h']; exact h4
        · exact .inr g
    rcases hk l.length (Nat.le_refl _) with g | g
    · rw [List.take_length] at g; exact absurd g h
    · exact g
theorem BadAt.not_fine {l : List Int} {i : Nat} (h : BadAt l i) : ¬ Fine l := fun g => g _ (List.getElem_mem h.1) h.2.1
theorem BadAt.uniq {l : List Int} {i j : Nat} (h : BadAt l i) (g : BadAt l j) : i = j := by
  obtain ⟨hi, h4, hf⟩ := h
  obtain ⟨gj, g4, gf⟩ := g
  rcases Nat.lt_trichotomy i j with x | x | x
  · exact absurd h4 (gf _ (List.mem_take_iff_getElem.2 ⟨i, by omega, rfl⟩))
  · exact x
  · exact absurd g4 (hf _ (List.mem_take_iff_getElem.2 ⟨j, by omega, rfl⟩))
/-- What Map answers. -/
def MapPost (l : List Int) (w : World) (e : Ending) (w' : World) : Prop :=
  ((Fine l ∧ ∃ v', e = .returned (.tuple #[v', .int .i64 0, .bool true]) ∧ IOwn w' w.heap.size v' (mapOf l)) ∨ (∃ i : Nat, BadAt l i ∧ e = .returned (.tuple #[.slice none 0 0, .int .i64 (i : Int), .bool false]))) ∧ Below w.heap.size w w'
theorem MapPost.fine {l : List Int} {w w' : World} {e : Ending} {v' : Value} (h : Fine l) (he : e = .returned (.tuple #[v', .int .i64 0, .bool true])) (ho : IOwn w' w.heap.size v' (mapOf l)) (hb : Below w.heap.size w w') : MapPost l w e w' := ⟨.inl ⟨h, v', he, ho⟩, hb⟩
theorem MapPost.bad {l : List Int} {w w' : World} {e : Ending} {i : Nat} (h : BadAt l i) (he : e = .returned (.tuple #[.slice none 0 0, .int .i64 (i : Int), .bool false])) (hb : Below w.heap.size w w') : MapPost l w e w' := ⟨.inr ⟨i, h, he⟩, hb⟩
set_option maxRecDepth 20000 in
set_option maxHeartbeats 2000000 in
theorem map_post (v : Value) (l : List Int) (w : World) (hv : IRow w v l) (hlen : l.length ≤ 100000) :
    Calls Try.prog 14 #[v] w fun e w' => MapPost l w e w' := by
  have hz := zero_tab
  have HV := hid hv
  have HL := hid hlen
  obtain ⟨a, cap, rfl, h1, h2, h3⟩ := hv
  have hmk := makeI l.length (by omega)
  have hl1 : (l.length : Int) ≤ 100000 := by omega
  have hc1 : (l.length : Int) ≤ (cap : Int) := by omega
  have hc2 : (cap : Int) ≤ 9223372036854775807 := by unfold maxLen at h2; omega
  clear h3 hlen h1 h2
  go_enter Try.func14, Try.ntmps14
  go_wp2_with fail
  refine (makeTable_calls _).mono ?_
  rintro e w1 ⟨rfl, hb1⟩
  have HB1 := hid (hb1.alloc hb1.size (.cells tabCells 36))
  have HT := hid (tab_there w1)
  have HT0 : Hid (w1.heap.size < (w1.alloc (.cells tabCells 36)).heap.size) := by show _ < _; simp
  clear hb1
  go_wp2_with (refine wpList_store_tab rfl _ _ rfl rfl rfl ?_)
  have hsz : (w1.alloc (.cells tabCells 36)).heap.size = w1.heap.size + 1 := by simp
  have HM := hid (Own.made fi 3 (w1.alloc (.cells tabCells 36)) (madeCells #[.int .i64 0] l.length) l.length (size_madeCells _ _) (by have := HL.out; omega))
  have HM2 : Hid (Below (w1.heap.size + 1) (w1.alloc (.cells tabCells 36)) ((w1.alloc (.cells tabCells 36)).alloc (.cells (madeCells #[.int .i64 0] l.length) 3))) := (Below.refl _ _).alloc (by rw [hsz]; exact Nat.le_refl _) _
  rw [hsz] at HM
  have HW2 := hid hsz
  have HW0 := hid HB1.out.size
  clear hmk hz HT0 hsz
  generalize (w1.alloc (.cells tabCells 36)).alloc (.cells (madeCells #[.int .i64 0] l.length) 3) = ws at *
  generalize w1.alloc (.cells tabCells 36) = w2 at *
  generalize w1.heap.size = T at *
  go_loopw [6, 16] (fun v i wr => ∃ k : Nat, k ≤ l.length ∧ i = .int .i64 (k : Int) ∧ IOwn wr (T + 1) v (mapOf (l.take k)) ∧ Below (T + 1) w2 wr ∧ Fine (l.take k)) (fun _ i _ => l.length - (intOf i).toNat)
  case atStart => exact ⟨0, Nat.zero_le _, rfl, HM.out, HM2.out, by intro c hc; simp at hc⟩
  case round =>
    obtain ⟨k, hk, rfl, ho, hb, hf⟩ := hrel
    have HO := hid ho
    have HB := hid hb
    have HF := hid hf
    have HBW : Hid (Below w.heap.size w wr) := HB1.out.trans (hb.mono (by have := HB1.out.size; have := HW2.out; omega))
    clear ho hb hf HM HM2
    by_cases hlt : k < l.length
    · obtain ⟨b, off, rfl, hbl, hc⟩ : ∃ b off, a = some ⟨b, off, none⟩ ∧ b < w.heap.size ∧ ∀ i (h : i < l.length), w.cell? ⟨b, off + i, none⟩ = some (fi l[i]) := by
        obtain ⟨a', cap', he, _, _, h3⟩ := HV.out
        injection he with e1 e2 e3
        subst e1
        exact h3 (by intro h; simp [h] at hlt)
      have hck : wr.cell? ⟨b, off + k, none⟩ = some (.int .i64 l[k]) := (HBW.out.cell (p := ⟨b, off + k, none⟩) hbl).trans (hc k hlt)
      have HK := hid hlt
      have HS := hid (map_snoc l k hlt)
      have HBD := hid (rule_bounds l[k])
      have HKS : Hid (kindOf l[k] ≠ 4 → 0 ≤ l[k] ∧ l[k] ≤ 1114111) := kind_sign
      have HBad : Hid (kindOf l[k] = 4 → BadAt l k) := fun h => ⟨hlt, h, HF.out⟩
      have HNx : Hid (kindOf l[k] ≠ 4 → Fine (l.take (k + 1))) := by
        intro h
        rw [List.take_succ_eq_append_getElem hlt]
        intro c hc
        rcases List.mem_append.1 hc with h' | h'
        · exact HF.out c h'
        · rw [List.mem_singleton.1 h']; exact h
      have k0 : (0 : Int) ≤ (k : Int) := by omega
      have k1 : (k : Int) < (l.length : Int) := by omega
      have HML := hid (map_len (l.take k))
      generalize l[k] = c at *
      have HTr : Hid (TabAt wr T) := by
        show wr.heap[T]? = _
        rw [HB.out.block T (by omega)]; exact HT.out
      have HR := hid (ruleOf_calls T c wr HTr.out)
      have HSz : Hid (T + 1 ≤ wr.heap.size) := by show _ ≤ _; have := HB.out.size; have := HW2.out; omega
      by_cases h4 : kindOf c = 4
      · have HX := hid (HBad.out h4)
        have hkd : (ruleOf c).2.2.2.1 = 4 := h4
        clear h4 hc hk hlt HKS HBD HS HBad HNx
        rcases hq : ruleOf c with ⟨f, ll, p, kd, to, th⟩
        rw [hq] at HR hkd
        simp only at hkd
        subst hkd
        clear hq
        go_wp2_with fail
        refine HR.out.mono ?_
        rintro e w3 ⟨rfl, hb3⟩
        have HB3 := hid ((HBW.out.trans (hb3.mono HBW.out.size)).alloc (Nat.le_trans HBW.out.size hb3.size) (.cells (arrR (f, ll, p, 4, to, th)) 34))
        clear hb3 HR
        go_wp2_with fail
        go_ret3
        exact MapPost.bad HX.out rfl HB3.out
      · have HX := hid (HNx.out h4)
        obtain ⟨c0, c1⟩ := HKS.out h4
        have hkd : ((ruleOf c).2.2.2.1 == 4) = false := by rw [beq_eq_false_iff_ne]; exact h4
        have HLn : Hid ((mapOf (l.take k)).length ≤ 500000) := by
          show _ ≤ _
          have h1 := HML.out
          have h2 := HL.out
          have h3 : (l.take k).length ≤ l.length := by rw [List.length_take]; omega
          omega
        have HA := hid (fun w ho hb => appendSigns_calls (ruleOf c) u6 (mapOf (l.take k)) c w (T + 1) ho hb HLn.out c0 c1 HBD.out.1 HBD.out.2.1 HBD.out.2.2.1 HBD.out.2.2.2)
        clear h4 hc hk hlt HKS HBD HBad HNx c0 c1 HML HLn
        rcases hq : ruleOf c with ⟨f, ll, p, kd, to, th⟩
        rw [hq] at HR hkd HA HS
        simp only at hkd
        clear hq
        go_wp2_with fail
        refine HR.out.mono ?_
        rintro e w3 ⟨rfl, hb3⟩
        have HO3 := hid ((HO.out.below hb3).alloc (.cells (arrR (f, ll, p, kd, to, th)) 34))
        have HB3 := hid ((HB.out.trans (hb3.mono HSz.out)).alloc (Nat.le_trans HSz.out hb3.size) (.cells (arrR (f, ll, p, kd, to, th)) 34))
        have HZ3 : Hid (T + 1 ≤ (w3.alloc (.cells (arrR (f, ll, p, kd, to, th)) 34)).heap.size) := by show _ ≤ _; have := HSz.out; have := hb3.size; simp; omega
        clear hb3 HR HO HB HBW HTr HSz hck
        go_wp2_with fail
        refine (HA.out _ HO3.out HZ3.out).mono ?_
        rintro e w4 ⟨⟨v', rfl, ho4⟩, hb4⟩
        have HO4 := hid ho4
        have HB4 := hid (HB3.out.trans hb4)
        clear ho4 hb4 HA HO3 HB3 HZ3
        go_wp2_with fail
        go_roundw
        case rel => exact ⟨k + 1, HK.out, by go_num, by rw [HS.out]; exact HO4.out, HB4.out, HX.out⟩
        case measure => have := HK.out; simp [intOf]; omega
    · have hkl : k = l.length := by omega
      have HX : Hid (Fine l) := by have := HF.out; rwa [hkl, List.take_length] at this
      have HO2 : Hid (IOwn wr w.heap.size u6 (mapOf l)) := by
        have := HO.out.mono (base' := w.heap.size) (by have := HB1.out.size; have := HW2.out; omega)
        rwa [hkl, List.take_length] at this
      clear HO HB HF
      go_wp2_with fail
      go_ret3
      exact MapPost.fine HX.out rfl HO2.out HBW.out
theorem map_fine (v : Value) (l : List Int) (w : World) (hv : IRow w v l) (hlen : l.length ≤ 100000) (h : Fine l) :
    Calls Try.prog 14 #[v] w fun e w' => (∃ v', e = .returned (.tuple #[v', .int .i64 0, .bool true]) ∧ IOwn w' w.heap.size v' (mapOf l)) ∧ Below w.heap.size w w' := by
  refine (map_post v l w hv hlen).mono ?_
  rintro e w' ⟨⟨_, v', he, ho⟩ | ⟨i, hi, _⟩, hb⟩
  · exact ⟨⟨v', he, ho⟩, hb⟩
  · exact absurd h hi.not_fine
theorem map_bad (v : Value) (l : List Int) (w : World) (hv : IRow w v l) (hlen : l.length ≤ 100000) (i : Nat) (h : BadAt l i) :
    Calls Try.prog 14 #[v] w fun e w' => e = .returned (.tuple #[.slice none 0 0, .int .i64 (i : Int), .bool false]) ∧ Below w.heap.size w w' := by
  refine (map_post v l w hv hlen).mono ?_
  rintro e w' ⟨⟨g, _⟩ | ⟨j, hj, he⟩, hb⟩
  · exact absurd g h.not_fine
  · rw [h.uniq hj]; exact ⟨he, hb⟩
end Go.Proofs.Ytkbfjhdpepbphaa
